import Derived.Deep.DeepCutAuto
import Derived.Deep.OwnRows
import Derived.Deep.RegionHeld3
import Derived.Test.YtpobfklbbkdglaaDoorJRoot
import Derived.Test.YtpobfklbbkdglaaDoorJNKids
import Derived.Test.YtpobfklbbkdglaaDoorJVAll
import Derived.Test.YtpobfklbbkdglaaDoorJMath
namespace Go.Proofs.YtpobfklbbkdglaaDoor
open Go.RowKit Go.Maps Go.WideMaps
set_option maxRecDepth 20000
def BoundEnd (nd : Nat → Nd) (N : Nat) (w w' : World) (e : Ending) : Prop := Below w.heap.size w w' ∧
  ((¬ ValidT nd N ∧ e = .returned (.tuple #[.slice none 0 0, .agg #[.int .i64 11, .int .i64 0]])) ∨
   (∃ o x, ValidT nd N ∧ kidsF nd N = some (o, [x]) ∧ ((∃ k c r, fls (treeE nd o N) = (k, c) :: r ∧ e = .returned (.tuple #[.slice none 0 0, .agg #[.int .i64 (c : Nat), .int .i64 (k : Nat)]])) ∨
     (fls (treeE nd o N) = [] ∧ ∃ gb, e = .returned (.tuple #[.slice (some ⟨gb, 0, none⟩) N N, .agg #[.int .i64 0, .int .i64 0]]) ∧ w.heap.size ≤ gb ∧ BnAt w' gb N (apB (fun _ => -1) (treeE nd o N))))))
theorem kg_stb {W : World} {S : Nat → Prop} {gk N B : Nat} {o : List (List Nat)} (h : KG W gk N o) (hb : ∀ i, i < N → ∀ g n c, W.cell? ⟨gk, i, none⟩ = some (.slice (some ⟨g, 0, none⟩) n c) → B ≤ g) (hgk : B ≤ gk) (hS : ∀ k, S k → k < B ∨ W.heap.size ≤ k) : Stb S W fun W' => KG W' gk N o := by
  intro W' hW i hi
  obtain ⟨ad, c, h1, h2, h3, h4⟩ := h i hi
  have l1 := World.block_lt_of_cell? W _ h1
  refine ⟨ad, c, (hW.cell (p := ⟨gk, i, none⟩) l1 (fun hs => by rcases hS _ hs with h | h <;> simp only at h l1 <;> omega)).trans h1, h2, h3, h4.imp_right ?_⟩
  rintro ⟨g, rfl, hc⟩
  refine ⟨g, rfl, fun j hj => ?_⟩
  have l2 := World.block_lt_of_cell? W _ (hc j hj)
  have l3 := hb i hi g _ _ h1
  exact (hW.cell (p := ⟨g, j, none⟩) l2 (fun hs => by rcases hS _ hs with h | h <;> simp only at h l2 <;> omega)).trans (hc j hj)
/-- What lies there when the binder is made. -/
def BoxR (nd : Nat → Nd) (o : List (List Nat)) (N b cap : Nat) (w1 : World) (v : Value) (wx : World) : Prop := ∃ bb gm gk, v = .pointer (some ⟨bb, 0, none⟩) ∧ w1.heap.size ≤ bb ∧ w1.heap.size ≤ gm ∧ bb ≠ gm ∧ gk ≠ bb ∧ gk ≠ gm ∧
  (Bx.mk bb gm b N cap gk nd o).At wx (fun _ => 0) 0 0 ∧ Stb (fun k => k = bb ∨ k = gm) wx (fun W => KG W gk N o) ∧ Below w1.heap.size w1 wx
theorem kg_lt {W : World} {gk N : Nat} {o : List (List Nat)} (h : KG W gk N o) (hN : 1 ≤ N) : gk < W.heap.size := by
  obtain ⟨ad, c, h1, _⟩ := h 0 (by omega)
  exact World.block_lt_of_cell? W _ h1
theorem box_end {nd : Nat → Nd} {o : List (List Nat)} {N b cap : Nat} {w1 W0 w2 wx : World} (bb gm gk : Nat) (hN : 1 ≤ N) (h0 : Below w1.heap.size w1 W0) (hgk : W0.heap.size ≤ gk) (hkg : KG w2 gk N o)
    (hkb : ∀ i, i < N → ∀ g n c, w2.cell? ⟨gk, i, none⟩ = some (.slice (some ⟨g, 0, none⟩) n c) → W0.heap.size ≤ g) (hb2 : Below W0.heap.size W0 w2)
    (hbb : w1.heap.size ≤ bb ∧ (bb < W0.heap.size ∨ w2.heap.size ≤ bb)) (hgm : w1.heap.size ≤ gm ∧ (gm < W0.heap.size ∨ w2.heap.size ≤ gm)) (hne : bb ≠ gm) (hsv : Sv (fun k => k = bb ∨ k = gm) w2 wx)
    (hbx : wx.heap[bb]? = some (.cells #[.slice (some ⟨b, 0, none⟩) N cap, .slice (some ⟨gk, 0, none⟩) N N, .slice (some ⟨gm, 0, none⟩) N N, .int .i64 0, .int .i64 0] 84 (0, 0))) (hgx : wx.heap[gm]? = some (.cells (madeCells #[.int .i64 0] N) 3 (0, 0))) :
    BoxR nd o N b cap w1 (.pointer (some ⟨bb, 0, none⟩)) wx := by
  have hl := kg_lt hkg hN
  have hz := h0.size
  have hz2 := hb2.size
  refine ⟨bb, gm, gk, rfl, hbb.1, hgm.1, hne, by rcases hbb.2 with h | h <;> omega, by rcases hgm.2 with h | h <;> omega, ⟨hbx, bn_made hgx⟩, ?_, ?_⟩
  · refine Stb.go (kg_stb hkg hkb hgk ?_) hsv
    rintro k (rfl | rfl)
    · exact hbb.2
    · exact hgm.2
  · refine (h0.trans (hb2.mono hz)).trans (hsv.below (Nat.le_trans hz hz2) ?_)
    rintro k (rfl | rfl)
    · exact hbb.1
    · exact hgm.1
/-- The five cells of a binder that was just made. -/
structure Five0 (W : World) (bb : Nat) : Prop where
  c0 : W.cell? ⟨bb, 0, none⟩ = some (.slice none 0 0)
  c1 : W.cell? ⟨bb, 1, none⟩ = some (.slice none 0 0)
  c2 : W.cell? ⟨bb, 2, none⟩ = some (.slice none 0 0)
  c3 : W.cell? ⟨bb, 3, none⟩ = some (.int .i64 0)
  c4 : W.cell? ⟨bb, 4, none⟩ = some (.int .i64 0)
  f0 : W.frozen? ⟨bb, 0, none⟩ = false
  f1 : W.frozen? ⟨bb, 1, none⟩ = false
  f2 : W.frozen? ⟨bb, 2, none⟩ = false
  f3 : W.frozen? ⟨bb, 3, none⟩ = false
  f4 : W.frozen? ⟨bb, 4, none⟩ = false
theorem five0 {W : World} {bb : Nat} (h : W.heap[bb]? = some (.cells #[.slice none 0 0, .slice none 0 0, .slice none 0 0, .int .i64 0, .int .i64 0] 84 (0, 0))) : Five0 W bb := by
  have f : ∀ i, W.frozen? ⟨bb, i, none⟩ = false := fun i => by unfold World.frozen?; rw [h]; simp
  refine ⟨?_, ?_, ?_, ?_, ?_, f 0, f 1, f 2, f 3, f 4⟩ <;> (unfold World.cell?; rw [h]; rfl)
theorem pre_t {w1 w2 : World} {n b N cap : Nat} (t1 : w1.cell? ⟨n, 0, none⟩ = some (.slice (some ⟨b, 0, none⟩) N cap)) (hn : n + 2 ≤ w1.heap.size) (h : Below (w1.drew).heap.size (w1.drew) w2) : w2.cell? ⟨n, 0, none⟩ = some (.slice (some ⟨b, 0, none⟩) N cap) :=
  (h.cell (p := ⟨n, 0, none⟩) (by show n < w1.heap.size; omega)).trans t1
theorem pre_t1 {w1 w2 : World} {O : Obj} {n b N cap : Nat} (t1 : w1.cell? ⟨n, 0, none⟩ = some (.slice (some ⟨b, 0, none⟩) N cap)) (hn : n + 2 ≤ w1.heap.size) (h : Below ((w1.alloc O).drew).heap.size ((w1.alloc O).drew) w2) : w2.cell? ⟨n, 0, none⟩ = some (.slice (some ⟨b, 0, none⟩) N cap) :=
  (h.cell (p := ⟨n, 0, none⟩) (by show n < (w1.alloc O).heap.size; simp; omega)).trans ((cell_alloc_lt w1 O _ _ (by omega)).trans t1)
theorem pre_t2 {w1 w2 : World} {O O' : Obj} {n b N cap : Nat} (t1 : w1.cell? ⟨n, 0, none⟩ = some (.slice (some ⟨b, 0, none⟩) N cap)) (hn : n + 2 ≤ w1.heap.size) (h : Below (((w1.alloc O).alloc O').drew).heap.size (((w1.alloc O).alloc O').drew) w2) : w2.cell? ⟨n, 0, none⟩ = some (.slice (some ⟨b, 0, none⟩) N cap) :=
  (h.cell (p := ⟨n, 0, none⟩) (by show n < ((w1.alloc O).alloc O').heap.size; simp; omega)).trans ((cell_alloc_lt (w1.alloc O) O' _ _ (by simp; omega)).trans ((cell_alloc_lt w1 O _ _ (by omega)).trans t1))
theorem five_more {W : World} {bb : Nat} (h : Five0 W bb) (O : Obj) : Five0 (W.alloc O) bb := by
  have hl := World.block_lt_of_cell? W _ h.c0
  have f : ∀ i, (W.alloc O).frozen? ⟨bb, i, none⟩ = W.frozen? ⟨bb, i, none⟩ := fun i => by unfold World.frozen?; rw [Below.heap_alloc _ _ _ hl]
  have c : ∀ i, (W.alloc O).cell? ⟨bb, i, none⟩ = W.cell? ⟨bb, i, none⟩ := fun i => by unfold World.cell?; rw [Below.heap_alloc _ _ _ hl]
  exact ⟨(c _).trans h.c0, (c _).trans h.c1, (c _).trans h.c2, (c _).trans h.c3, (c _).trans h.c4, (f _).trans h.f0, (f _).trans h.f1, (f _).trans h.f2, (f _).trans h.f3, (f _).trans h.f4⟩
theorem pre_b {w1 w2 : World} (h : Below ((w1.alloc (.cells #[.slice none 0 0, .slice none 0 0, .slice none 0 0, .int .i64 0, .int .i64 0] 84)).drew).heap.size ((w1.alloc (.cells #[.slice none 0 0, .slice none 0 0, .slice none 0 0, .int .i64 0, .int .i64 0] 84)).drew) w2) : w1.heap.size < w2.heap.size ∧ Five0 w2 w1.heap.size :=
  ⟨by have := h.size; simp at this; omega, five0 ((h.block _ (by simp)).trans (heap_alloc_new w1 _))⟩
theorem pre_bm {w1 w2 : World} {N : Nat} (h : Below (((w1.alloc (.cells #[.slice none 0 0, .slice none 0 0, .slice none 0 0, .int .i64 0, .int .i64 0] 84)).alloc (.cells (madeCells #[.int .i64 0] N) 3)).drew).heap.size (((w1.alloc (.cells #[.slice none 0 0, .slice none 0 0, .slice none 0 0, .int .i64 0, .int .i64 0] 84)).alloc (.cells (madeCells #[.int .i64 0] N) 3)).drew) w2) : w1.heap.size < w2.heap.size ∧ Five0 w2 w1.heap.size :=
  ⟨by have := h.size; simp at this; omega, five0 ((h.block _ (by simp; omega)).trans ((Below.heap_alloc _ _ _ (by simp)).trans (heap_alloc_new w1 _)))⟩
theorem pre_mb {w1 w2 : World} {N : Nat} (h : Below (((w1.alloc (.cells (madeCells #[.int .i64 0] N) 3)).alloc (.cells #[.slice none 0 0, .slice none 0 0, .slice none 0 0, .int .i64 0, .int .i64 0] 84)).drew).heap.size (((w1.alloc (.cells (madeCells #[.int .i64 0] N) 3)).alloc (.cells #[.slice none 0 0, .slice none 0 0, .slice none 0 0, .int .i64 0, .int .i64 0] 84)).drew) w2) : w1.heap.size + 1 < w2.heap.size ∧ Five0 w2 (w1.heap.size + 1) :=
  ⟨by have := h.size; simp at this; omega, five0 ((h.block _ (by simp)).trans (by have := heap_alloc_new (w1.alloc (.cells (madeCells #[.int .i64 0] N) 3)) (.cells #[.slice none 0 0, .slice none 0 0, .slice none 0 0, .int .i64 0, .int .i64 0] 84); rwa [World.size_alloc] at this))⟩
theorem five_set {W : World} {bb : Nat} {x y z u v a b c d e : Value} {t : TypeId} (h : W.heap[bb]? = some (.cells #[x, y, z, u, v] t (0, 0))) : (((((W.setCell ⟨bb, 0, none⟩ a).setCell ⟨bb, 1, none⟩ b).setCell ⟨bb, 2, none⟩ c).setCell ⟨bb, 3, none⟩ d).setCell ⟨bb, 4, none⟩ e).heap[bb]? = some (.cells #[a, b, c, d, e] t (0, 0)) := by
  rw [set_at e (set_at d (set_at c (set_at b (set_at a h))))]
  rfl
theorem set5_ne {W : World} {bb k : Nat} {a b c d e : Value} (h : k ≠ bb) : (((((W.setCell ⟨bb, 0, none⟩ a).setCell ⟨bb, 1, none⟩ b).setCell ⟨bb, 2, none⟩ c).setCell ⟨bb, 3, none⟩ d).setCell ⟨bb, 4, none⟩ e).heap[k]? = W.heap[k]? := by
  rw [Below.heap_setCell _ _ _ _ h, Below.heap_setCell _ _ _ _ h, Below.heap_setCell _ _ _ _ h, Below.heap_setCell _ _ _ _ h, Below.heap_setCell _ _ _ _ h]
theorem end1 {nd : Nat → Nd} {o : List (List Nat)} {N b cap gk : Nat} {w1 w2 : World} (hN : 1 ≤ N) (hb2 : Below (w1.drew).heap.size (w1.drew) w2) (hgk : (w1.drew).heap.size ≤ gk) (hkg : KG w2 gk N o) (hkb : ∀ i, i < N → ∀ g n c, w2.cell? ⟨gk, i, none⟩ = some (.slice (some ⟨g, 0, none⟩) n c) → (w1.drew).heap.size ≤ g) : BoxR nd o N b cap w1 (.pointer (some ⟨w2.heap.size + 1, 0, none⟩)) ((w2.alloc (.cells (madeCells #[.int .i64 0] N) 3)).alloc (.cells #[.slice (some ⟨b, 0, none⟩) N cap, .slice (some ⟨gk, 0, none⟩) N N, .slice (some ⟨w2.heap.size, 0, none⟩) N N, .int .i64 0, .int .i64 0] 84)) := by
  have hz : w1.heap.size ≤ w2.heap.size := hb2.size
  refine box_end (w2 := w2) (w2.heap.size + 1) w2.heap.size gk hN (Below.refl _ w1).drew hgk hkg hkb hb2 ⟨by omega, .inr (by omega)⟩ ⟨hz, .inr (Nat.le_refl _)⟩ (by omega) ?_ ?_ ?_
  · exact ((Sv.refl _ w2).alloc _).alloc _
  · have := heap_alloc_new (w2.alloc (.cells (madeCells #[.int .i64 0] N) 3)) (.cells #[.slice (some ⟨b, 0, none⟩) N cap, .slice (some ⟨gk, 0, none⟩) N N, .slice (some ⟨w2.heap.size, 0, none⟩) N N, .int .i64 0, .int .i64 0] 84)
    rwa [World.size_alloc] at this
  · exact (Below.heap_alloc _ _ _ (by simp)).trans (heap_alloc_new w2 _)
theorem end2 {nd : Nat → Nd} {o : List (List Nat)} {N b cap gk : Nat} {w1 w2 : World} (hN : 1 ≤ N) (hb2 : Below (w1.drew).heap.size (w1.drew) w2) (hgk : (w1.drew).heap.size ≤ gk) (hkg : KG w2 gk N o) (hkb : ∀ i, i < N → ∀ g n c, w2.cell? ⟨gk, i, none⟩ = some (.slice (some ⟨g, 0, none⟩) n c) → (w1.drew).heap.size ≤ g) : BoxR nd o N b cap w1 (.pointer (some ⟨w2.heap.size, 0, none⟩)) ((w2.alloc (.cells #[.slice (some ⟨b, 0, none⟩) N cap, .slice (some ⟨gk, 0, none⟩) N N, .slice (some ⟨w2.heap.size + 1, 0, none⟩) N N, .int .i64 0, .int .i64 0] 84)).alloc (.cells (madeCells #[.int .i64 0] N) 3)) := by
  have hz : w1.heap.size ≤ w2.heap.size := hb2.size
  refine box_end (w2 := w2) w2.heap.size (w2.heap.size + 1) gk hN (Below.refl _ w1).drew hgk hkg hkb hb2 ⟨hz, .inr (Nat.le_refl _)⟩ ⟨by omega, .inr (by omega)⟩ (by omega) ?_ ?_ ?_
  · exact ((Sv.refl _ w2).alloc _).alloc _
  · exact (Below.heap_alloc _ _ _ (by simp)).trans (heap_alloc_new w2 _)
  · have := heap_alloc_new (w2.alloc (.cells #[.slice (some ⟨b, 0, none⟩) N cap, .slice (some ⟨gk, 0, none⟩) N N, .slice (some ⟨w2.heap.size + 1, 0, none⟩) N N, .int .i64 0, .int .i64 0] 84)) (.cells (madeCells #[.int .i64 0] N) 3)
    rwa [World.size_alloc] at this
theorem end3 {nd : Nat → Nd} {o : List (List Nat)} {N b cap gk : Nat} {w1 w2 : World} (hN : 1 ≤ N) (hb2 : Below ((w1.alloc (.cells (madeCells #[.int .i64 0] N) 3)).drew).heap.size ((w1.alloc (.cells (madeCells #[.int .i64 0] N) 3)).drew) w2) (hgk : ((w1.alloc (.cells (madeCells #[.int .i64 0] N) 3)).drew).heap.size ≤ gk) (hkg : KG w2 gk N o) (hkb : ∀ i, i < N → ∀ g n c, w2.cell? ⟨gk, i, none⟩ = some (.slice (some ⟨g, 0, none⟩) n c) → ((w1.alloc (.cells (madeCells #[.int .i64 0] N) 3)).drew).heap.size ≤ g) : BoxR nd o N b cap w1 (.pointer (some ⟨w2.heap.size, 0, none⟩)) (w2.alloc (.cells #[.slice (some ⟨b, 0, none⟩) N cap, .slice (some ⟨gk, 0, none⟩) N N, .slice (some ⟨w1.heap.size, 0, none⟩) N N, .int .i64 0, .int .i64 0] 84)) := by
  have hz : w1.heap.size + 1 ≤ w2.heap.size := by have := hb2.size; simpa using this
  refine box_end (w2 := w2) w2.heap.size w1.heap.size gk hN ((Below.refl _ w1).alloc (Nat.le_refl _) _).drew hgk hkg hkb hb2 ⟨by omega, .inr (Nat.le_refl _)⟩ ⟨Nat.le_refl _, .inl (by simp)⟩ (by omega) ?_ ?_ ?_
  · exact (Sv.refl _ w2).alloc _
  · exact heap_alloc_new w2 _
  · exact (Below.heap_alloc _ _ _ (by omega)).trans ((hb2.block _ (by simp)).trans (heap_alloc_new w1 _))
theorem end4 {nd : Nat → Nd} {o : List (List Nat)} {N b cap gk : Nat} {w1 w2 : World} (hN : 1 ≤ N) (hb2 : Below (((w1.alloc (.cells (madeCells #[.int .i64 0] N) 3)).alloc (.cells #[.slice none 0 0, .slice none 0 0, .slice none 0 0, .int .i64 0, .int .i64 0] 84)).drew).heap.size (((w1.alloc (.cells (madeCells #[.int .i64 0] N) 3)).alloc (.cells #[.slice none 0 0, .slice none 0 0, .slice none 0 0, .int .i64 0, .int .i64 0] 84)).drew) w2) (hgk : (((w1.alloc (.cells (madeCells #[.int .i64 0] N) 3)).alloc (.cells #[.slice none 0 0, .slice none 0 0, .slice none 0 0, .int .i64 0, .int .i64 0] 84)).drew).heap.size ≤ gk) (hkg : KG w2 gk N o) (hkb : ∀ i, i < N → ∀ g n c, w2.cell? ⟨gk, i, none⟩ = some (.slice (some ⟨g, 0, none⟩) n c) → (((w1.alloc (.cells (madeCells #[.int .i64 0] N) 3)).alloc (.cells #[.slice none 0 0, .slice none 0 0, .slice none 0 0, .int .i64 0, .int .i64 0] 84)).drew).heap.size ≤ g) : BoxR nd o N b cap w1 (.pointer (some ⟨w1.heap.size + 1, 0, none⟩)) ((((((w2.setCell ⟨w1.heap.size + 1, 0, none⟩ (.slice (some ⟨b, 0, none⟩) N cap)).setCell ⟨w1.heap.size + 1, 1, none⟩ (.slice (some ⟨gk, 0, none⟩) N N)).setCell ⟨w1.heap.size + 1, 2, none⟩ (.slice (some ⟨w1.heap.size, 0, none⟩) N N)).setCell ⟨w1.heap.size + 1, 3, none⟩ (.int .i64 0)).setCell ⟨w1.heap.size + 1, 4, none⟩ (.int .i64 0))) := by
  have hz : w1.heap.size + 1 + 1 ≤ w2.heap.size := by have := hb2.size; simpa using this
  refine box_end (w2 := w2) (w1.heap.size + 1) w1.heap.size gk hN (((Below.refl _ w1).alloc (Nat.le_refl _) _).alloc (by simp) _).drew hgk hkg hkb hb2 ⟨by omega, .inl (by simp)⟩ ⟨Nat.le_refl _, .inl (by simp; omega)⟩ (by omega) ?_ ?_ ?_
  · exact ((((((Sv.refl _ w2).setCell (p := ⟨w1.heap.size + 1, 0, none⟩) (.inl (.inl rfl)) _).setCell (p := ⟨w1.heap.size + 1, 1, none⟩) (.inl (.inl rfl)) _).setCell (p := ⟨w1.heap.size + 1, 2, none⟩) (.inl (.inl rfl)) _).setCell (p := ⟨w1.heap.size + 1, 3, none⟩) (.inl (.inl rfl)) _).setCell (p := ⟨w1.heap.size + 1, 4, none⟩) (.inl (.inl rfl)) _)
  · refine five_set ((hb2.block _ (by simp)).trans (?_ : _ = some (Obj.cells #[.slice none 0 0, .slice none 0 0, .slice none 0 0, .int .i64 0, .int .i64 0] 84)))
    have := heap_alloc_new (w1.alloc (.cells (madeCells #[.int .i64 0] N) 3)) (.cells #[.slice none 0 0, .slice none 0 0, .slice none 0 0, .int .i64 0, .int .i64 0] 84)
    rwa [World.size_alloc] at this
  · exact (set5_ne (by omega)).trans ((hb2.block _ (by simp; omega)).trans ((Below.heap_alloc _ _ _ (by simp)).trans (heap_alloc_new w1 _)))
theorem end5 {nd : Nat → Nd} {o : List (List Nat)} {N b cap gk : Nat} {w1 w2 : World} (hN : 1 ≤ N) (hb2 : Below ((w1.alloc (.cells #[.slice none 0 0, .slice none 0 0, .slice none 0 0, .int .i64 0, .int .i64 0] 84)).drew).heap.size ((w1.alloc (.cells #[.slice none 0 0, .slice none 0 0, .slice none 0 0, .int .i64 0, .int .i64 0] 84)).drew) w2) (hgk : ((w1.alloc (.cells #[.slice none 0 0, .slice none 0 0, .slice none 0 0, .int .i64 0, .int .i64 0] 84)).drew).heap.size ≤ gk) (hkg : KG w2 gk N o) (hkb : ∀ i, i < N → ∀ g n c, w2.cell? ⟨gk, i, none⟩ = some (.slice (some ⟨g, 0, none⟩) n c) → ((w1.alloc (.cells #[.slice none 0 0, .slice none 0 0, .slice none 0 0, .int .i64 0, .int .i64 0] 84)).drew).heap.size ≤ g) : BoxR nd o N b cap w1 (.pointer (some ⟨w1.heap.size, 0, none⟩)) ((((((w2.setCell ⟨w1.heap.size, 0, none⟩ (.slice (some ⟨b, 0, none⟩) N cap)).setCell ⟨w1.heap.size, 1, none⟩ (.slice (some ⟨gk, 0, none⟩) N N)).setCell ⟨w1.heap.size, 2, none⟩ (.slice (some ⟨w2.heap.size, 0, none⟩) N N)).setCell ⟨w1.heap.size, 3, none⟩ (.int .i64 0)).setCell ⟨w1.heap.size, 4, none⟩ (.int .i64 0)).alloc (.cells (madeCells #[.int .i64 0] N) 3)) := by
  have hz : w1.heap.size + 1 ≤ w2.heap.size := by have := hb2.size; simpa using this
  refine box_end (w2 := w2) w1.heap.size w2.heap.size gk hN ((Below.refl _ w1).alloc (Nat.le_refl _) _).drew hgk hkg hkb hb2 ⟨Nat.le_refl _, .inl (by simp)⟩ ⟨by omega, .inr (Nat.le_refl _)⟩ (by omega) ?_ ?_ ?_
  · exact Sv.alloc ((((((Sv.refl _ w2).setCell (p := ⟨w1.heap.size, 0, none⟩) (.inl (.inl rfl)) _).setCell (p := ⟨w1.heap.size, 1, none⟩) (.inl (.inl rfl)) _).setCell (p := ⟨w1.heap.size, 2, none⟩) (.inl (.inl rfl)) _).setCell (p := ⟨w1.heap.size, 3, none⟩) (.inl (.inl rfl)) _).setCell (p := ⟨w1.heap.size, 4, none⟩) (.inl (.inl rfl)) _) _
  · exact (Below.heap_alloc _ _ _ (by simp; omega)).trans (five_set ((hb2.block _ (by simp)).trans (heap_alloc_new w1 _)))
  · have := heap_alloc_new (((((w2.setCell ⟨w1.heap.size, 0, none⟩ (.slice (some ⟨b, 0, none⟩) N cap)).setCell ⟨w1.heap.size, 1, none⟩ (.slice (some ⟨gk, 0, none⟩) N N)).setCell ⟨w1.heap.size, 2, none⟩ (.slice (some ⟨w2.heap.size, 0, none⟩) N N)).setCell ⟨w1.heap.size, 3, none⟩ (.int .i64 0)).setCell ⟨w1.heap.size, 4, none⟩ (.int .i64 0)) (.cells (madeCells #[.int .i64 0] N) 3)
    simpa using this
theorem end6 {nd : Nat → Nd} {o : List (List Nat)} {N b cap gk : Nat} {w1 w2 : World} (hN : 1 ≤ N) (hb2 : Below (((w1.alloc (.cells #[.slice none 0 0, .slice none 0 0, .slice none 0 0, .int .i64 0, .int .i64 0] 84)).alloc (.cells (madeCells #[.int .i64 0] N) 3)).drew).heap.size (((w1.alloc (.cells #[.slice none 0 0, .slice none 0 0, .slice none 0 0, .int .i64 0, .int .i64 0] 84)).alloc (.cells (madeCells #[.int .i64 0] N) 3)).drew) w2) (hgk : (((w1.alloc (.cells #[.slice none 0 0, .slice none 0 0, .slice none 0 0, .int .i64 0, .int .i64 0] 84)).alloc (.cells (madeCells #[.int .i64 0] N) 3)).drew).heap.size ≤ gk) (hkg : KG w2 gk N o) (hkb : ∀ i, i < N → ∀ g n c, w2.cell? ⟨gk, i, none⟩ = some (.slice (some ⟨g, 0, none⟩) n c) → (((w1.alloc (.cells #[.slice none 0 0, .slice none 0 0, .slice none 0 0, .int .i64 0, .int .i64 0] 84)).alloc (.cells (madeCells #[.int .i64 0] N) 3)).drew).heap.size ≤ g) : BoxR nd o N b cap w1 (.pointer (some ⟨w1.heap.size, 0, none⟩)) ((((((w2.setCell ⟨w1.heap.size, 0, none⟩ (.slice (some ⟨b, 0, none⟩) N cap)).setCell ⟨w1.heap.size, 1, none⟩ (.slice (some ⟨gk, 0, none⟩) N N)).setCell ⟨w1.heap.size, 2, none⟩ (.slice (some ⟨w1.heap.size + 1, 0, none⟩) N N)).setCell ⟨w1.heap.size, 3, none⟩ (.int .i64 0)).setCell ⟨w1.heap.size, 4, none⟩ (.int .i64 0))) := by
  have hz : w1.heap.size + 1 + 1 ≤ w2.heap.size := by have := hb2.size; simpa using this
  refine box_end (w2 := w2) w1.heap.size (w1.heap.size + 1) gk hN (((Below.refl _ w1).alloc (Nat.le_refl _) _).alloc (by simp) _).drew hgk hkg hkb hb2 ⟨Nat.le_refl _, .inl (by simp; omega)⟩ ⟨by omega, .inl (by simp)⟩ (by omega) ?_ ?_ ?_
  · exact ((((((Sv.refl _ w2).setCell (p := ⟨w1.heap.size, 0, none⟩) (.inl (.inl rfl)) _).setCell (p := ⟨w1.heap.size, 1, none⟩) (.inl (.inl rfl)) _).setCell (p := ⟨w1.heap.size, 2, none⟩) (.inl (.inl rfl)) _).setCell (p := ⟨w1.heap.size, 3, none⟩) (.inl (.inl rfl)) _).setCell (p := ⟨w1.heap.size, 4, none⟩) (.inl (.inl rfl)) _)
  · exact five_set ((hb2.block _ (by simp; omega)).trans ((Below.heap_alloc _ _ _ (by simp)).trans (heap_alloc_new w1 _)))
  · refine (set5_ne (by omega)).trans ((hb2.block _ (by simp)).trans ?_)
    have := heap_alloc_new (w1.alloc (.cells #[.slice none 0 0, .slice none 0 0, .slice none 0 0, .int .i64 0, .int .i64 0] 84)) (.cells (madeCells #[.int .i64 0] N) 3)
    rwa [World.size_alloc] at this
theorem cell_set_ne {W : World} {g i n : Nat} {v : Value} (h : n ≠ g) : (W.setCell ⟨g, i, none⟩ v).cell? ⟨n, 0, none⟩ = W.cell? ⟨n, 0, none⟩ := by
  unfold World.cell?
  rw [Below.heap_setCell _ _ _ _ h]
theorem box_ok {nd : Nat → Nd} {o : List (List Nat)} {N b cap gk bb gm xx : Nat} (hne : bb ≠ gm) (hN2 : N ≤ 5000) (hx : ∀ i, i < N → (nd i).text.size ≤ maxLen) (ho : kidsF nd N = some (o, [xx])) (hf : ∀ i, i < N → FitAt nd o i) (h1 : b ≠ bb) (h2 : b ≠ gm) (h3 : gk ≠ bb) (h4 : gk ≠ gm) : (Bx.mk bb gm b N cap gk nd o).Ok := by
  refine ⟨hne, hN2, hx, down_of ho, fun k hk => fits_kidded hf k hk, (kidsF_len nd _ _ _ ho).1, ?_, ?_, kids_len5 ho hN2, kids_placeN ho, hf⟩
  · rintro (h | h)
    · exact h1 h
    · exact h2 h
  · rintro (h | h)
    · exact h3 h
    · exact h4 h
theorem walk_top (x : Bx) (hx : x.Ok) (hN : 1 ≤ x.N) (h24 : (x.nd (x.N - 1)).kind = 24) (z : Int) (hz : z = ((x.N - 1 : Nat) : Int)) (a : Option Addr) (bn : Nat → Int) (w : World) (h : x.At w bn 0 0) (ht : Stb x.S w x.Tree) (hk : Kn x.S w (.pointer a) builtEnv) :
    Calls Tryd.prog 51 #[.pointer (some ⟨x.bb, 0, none⟩), .int .i64 z, .pointer a] w fun e w' => e = .returned (.tuple #[]) ∧ x.Ends w w' bn (0, 0) (treeE x.nd x.o x.N) := by
  subst hz
  exact walk_root x hx (x.N - 1) (by omega) h24 builtEnv a bn (0, 0) w h ht hk
theorem apB_at (es : List Ev) (f g : Nat → Int) (i : Nat) (h : f i = g i) : apB f es i = apB g es i := by
  induction es generalizing f g with
  | nil => exact h
  | cons e es ih =>
    cases e with
    | bind k v =>
      refine ih _ _ ?_
      by_cases e : i = k
      · rw [if_pos e, if_pos e]
      · rw [if_neg e, if_neg e]; exact h
    | flt k c => exact ih _ _ h
theorem ft_stay (c k : Int) (hc : c ≠ 0) (l : List (Nat × Nat)) : ft (c, k) l = (c, k) := by
  induction l with
  | nil => rfl
  | cons y l ih =>
    obtain ⟨q, d⟩ := y
    show ft (if c = 0 then _ else (c, k)) l = _
    rw [if_neg hc]
    exact ih
theorem ft_first (k c : Nat) (hc : c ≠ 0) (l : List (Nat × Nat)) : ft (0, 0) ((k, c) :: l) = ((c : Int), (k : Int)) := by
  show ft (if (0 : Int) = 0 then ((c : Int), (k : Int)) else (0, 0)) l = _
  rw [if_pos rfl]
  exact ft_stay _ _ (by omega) l
theorem at_set {x : Bx} {W : World} {j : Nat} (hne : x.bb ≠ x.gb) (h : x.At W (fun i => if i < j then -1 else 0) 0 0) (hj : j < x.N) : x.At (W.setCell ⟨x.gb, j, none⟩ (.int .i64 (-1))) (fun i => if i < j + 1 then -1 else 0) 0 0 := by
  refine ⟨(Below.heap_setCell _ _ _ _ hne).trans h.1, ?_⟩
  have := h.2.set j hj (-1)
  have e : (fun i => if i = j then (-1 : Int) else if i < j then -1 else 0) = fun i => if i < j + 1 then -1 else 0 := by
    funext i
    by_cases h1 : i = j
    · rw [if_pos h1, if_pos (by omega)]
    · rw [if_neg h1]
      by_cases h2 : i < j
      · rw [if_pos h2, if_pos (by omega)]
      · rw [if_neg h2, if_neg (by omega)]
  rw [e] at this
  exact this
end Go.Proofs.YtpobfklbbkdglaaDoor
namespace Go.Proofs.YtpobfklbbkdglaaDoor
open Go.RowKit Go.Maps Go.WideMaps
set_option maxRecDepth 20000
set_option maxHeartbeats 4000000 in
theorem bound_any (b N cap : Nat) (nd : Nat → Nd) (w : World) (hN : N ≤ 1048576) (hb : b < w.heap.size) (hn : NodesAt w b N nd) (hx : ∀ i, i < N → (nd i).text.size ≤ maxLen) (hE : BEnv w) :
    Calls Tryd.prog 28 #[.agg #[.slice (some ⟨b, 0, none⟩) N cap]] w fun e w' => BoundEnd nd N w w' e := by
  have HN := hid hn
  have HX := hid hx
  have HE := hid hE
  clear hn hx hE
  have HA : Hid (Below w.heap.size w ((w.alloc (.cells #[.slice (some ⟨b, 0, none⟩) N cap] 31)).alloc (.cells #[.int .i64 0, .int .i64 0] 27))) := ((Below.refl _ _).alloc (Nat.le_refl _) _).alloc (by simp) _
  have HR0 : Hid ((World.heap ((w.alloc (.cells #[.slice (some ⟨b, 0, none⟩) N cap] 31)).alloc (.cells #[.int .i64 0, .int .i64 0] 27)))[w.heap.size + 1]? = some (.cells #[.int .i64 0, .int .i64 0] 27 (0, 0)) ∧ ((w.alloc (.cells #[.slice (some ⟨b, 0, none⟩) N cap] 31)).alloc (.cells #[.int .i64 0, .int .i64 0] 27)).cell? ⟨w.heap.size, 0, none⟩ = some (.slice (some ⟨b, 0, none⟩) N cap)) := by
    refine ⟨?_, ?_⟩
    · have := heap_alloc_new (w.alloc (.cells #[.slice (some ⟨b, 0, none⟩) N cap] 31)) (.cells #[.int .i64 0, .int .i64 0] 27)
      rw [World.size_alloc] at this
      exact this
    · rw [cell_alloc_lt _ _ _ _ (by simp)]
      exact cell_new_row w _ _ 0
  go_enter Tryd.func28, Tryd.ntmps28
  have HSZ : Hid (((w.alloc (.cells #[.slice (some ⟨b, 0, none⟩) N cap] 31)).alloc (.cells #[.int .i64 0, .int .i64 0] 27)).heap.size = w.heap.size + 2) := by show _ = _; simp
  go_wp2_with fail
  refine (implValid_all b N cap nd _ hN (by rw [HSZ.out]; omega) (HN.out.below HA.out hb) HX.out).mono ?_
  rintro e w1 ⟨hs1, hb1⟩
  have HB1 := hid (HA.out.trans (hb1.mono (by rw [HSZ.out]; omega)))
  have hw1 : w.heap.size + 2 ≤ w1.heap.size := by have := hb1.size; rw [HSZ.out] at this; exact this
  have hF1 : w1.heap[w.heap.size + 1]? = some (.cells #[.int .i64 0, .int .i64 0] 27 (0, 0)) := (hb1.block _ (by rw [HSZ.out]; omega)).trans HR0.out.1
  have t1 : w1.cell? ⟨w.heap.size, 0, none⟩ = some (.slice (some ⟨b, 0, none⟩) N cap) := (hb1.cell (p := ⟨w.heap.size, 0, none⟩) (by rw [HSZ.out]; show w.heap.size < w.heap.size + 2; omega)).trans HR0.out.2
  clear hb1
  obtain ⟨r0, r1, r2, r3⟩ : w1.cell? ⟨w.heap.size + 1, 0, none⟩ = some (.int .i64 0) ∧ w1.cell? ⟨w.heap.size + 1, 1, none⟩ = some (.int .i64 0) ∧ w1.frozen? ⟨w.heap.size + 1, 0, none⟩ = false ∧ w1.frozen? ⟨w.heap.size + 1, 1, none⟩ = false := by
    refine ⟨?_, ?_, ?_, ?_⟩
    · unfold World.cell?; rw [hF1]; rfl
    · unfold World.cell?; rw [hF1]; rfl
    · unfold World.frozen?; rw [hF1]; simp
    · unfold World.frozen?; rw [hF1]; simp
  rcases hs1.get with ⟨rfl, hV⟩ | ⟨rfl, hV⟩
  · have HV := hid hV
    obtain ⟨hV1, hV2, hV3, o, xx, hV4, hV5⟩ := hV
    have HKF := hid hV4
    have HFT := hid hV5
    clear hV4 hV5 hs1
    obtain ⟨i0, hi, hz0, hz1, hz2⟩ := info_parts info_int
    have HHI := hid (And.intro hi (And.intro hz0 (And.intro hz1 hz2)))
    clear hi hz0 hz1
    have hmk := run_make_row' (P := Tryd.prog) 36 3 (.int .i64 0) 8 Tryd.underlying36 info_int rfl .i64 .i64 N (by omega) (by omega)
    have HKP : Hid (∀ W, Below w.heap.size w W → Calls Tryd.prog 50 #[.slice (some ⟨b, 0, none⟩) N cap] W fun e w' => ∃ gk, e = .returned (.slice (some ⟨gk, 0, none⟩) N N) ∧ W.heap.size ≤ gk ∧ KG w' gk N o ∧ (∀ i, i < N → ∀ g n c, w'.cell? ⟨gk, i, none⟩ = some (.slice (some ⟨g, 0, none⟩) n c) → W.heap.size ≤ g) ∧ Below W.heap.size W w') := fun W hW => kidPlaces_any b N cap nd o _ W (by omega) (Nat.lt_of_lt_of_le hb hW.size) (HN.out.below hW hb) HKF.out
    have e1 : ∀ O, (w1.alloc O).cell? ⟨w.heap.size, 0, none⟩ = some (.slice (some ⟨b, 0, none⟩) N cap) := fun O => (cell_alloc_lt w1 O _ _ (by omega)).trans t1
    have e2 : ∀ O O', ((w1.alloc O).alloc O').cell? ⟨w.heap.size, 0, none⟩ = some (.slice (some ⟨b, 0, none⟩) N cap) := fun O O' => (cell_alloc_lt _ O' _ _ (by simp; omega)).trans (e1 O)
    go_upto_region 3 with fail
    have HK1 : Hid (∀ W, Below w1.heap.size w1 W → W.cell? ⟨w.heap.size, 0, none⟩ = some (.slice (some ⟨b, 0, none⟩) N cap)) := fun W h => (h.cell (p := ⟨w.heap.size, 0, none⟩) (by show w.heap.size < w1.heap.size; omega)).trans t1
    go_cut [4] (fun v wx => BoxR nd o N b cap w1 v wx)
    case first =>
      go_region_held3 (fun W => W.cell? ⟨w.heap.size, 0, none⟩ = some (.slice (some ⟨b, 0, none⟩) N cap)) (first | (rw [cell_set_ne, cell_set_ne, cell_set_ne, cell_set_ne, cell_set_ne]; (first | exact f1 | exact f2); all_goals omega) | (refine (cell_alloc_lt _ _ _ _ ?_).trans ?_; (simp [World.setCell]; omega); rw [cell_set_ne, cell_set_ne, cell_set_ne, cell_set_ne, cell_set_ne]; (exact f1); all_goals omega) | go_keep) (first
        | (go_at_call 50; refine (HKP.out _ ?_).mono ?_; (first | exact HB1.out.drew | exact (HB1.out.alloc HB1.out.size _).drew | exact ((HB1.out.alloc HB1.out.size _).alloc (by simp; omega) _).drew); rintro e w2 ⟨gk, rfl, hgk, hkg, hkb, hb2⟩; have f1 : w2.cell? ⟨w.heap.size, 0, none⟩ = some (.slice (some ⟨b, 0, none⟩) N cap) := (by first | exact pre_t t1 hw1 hb2 | exact pre_t1 t1 hw1 hb2 | exact pre_t2 t1 hw1 hb2); have f2 : (w2.alloc (.cells (madeCells #[.int .i64 0] N) 3)).cell? ⟨w.heap.size, 0, none⟩ = some (.slice (some ⟨b, 0, none⟩) N cap) := (cell_alloc_lt w2 _ _ _ (World.block_lt_of_cell? w2 _ f1)).trans f1; have HCA := hid hb2; have HKGX := hid hkg; have HKBX := hid hkb; (first | (have hq := pre_b (w1 := w1) hb2; obtain ⟨hlw, z0, z1, z2, z3, z4, z5, z6, z7, z8, z9⟩ := hq; obtain ⟨zz0, zz1, zz2, zz3, zz4, zz5, zz6, zz7, zz8, zz9⟩ := five_more ⟨z0, z1, z2, z3, z4, z5, z6, z7, z8, z9⟩ (.cells (madeCells #[.int .i64 0] N) 3)) | (have hq := pre_bm (w1 := w1) hb2; obtain ⟨hlw, z0, z1, z2, z3, z4, z5, z6, z7, z8, z9⟩ := hq) | (have hq := pre_mb (w1 := w1) hb2; obtain ⟨hlw, z0, z1, z2, z3, z4, z5, z6, z7, z8, z9⟩ := hq) | skip); clear hkg hkb hb2)
        | fail)
      · go_wp2_with fail
        go_meet
        case rel => exact end1 hV1 HCA.out hgk HKGX.out HKBX.out
      · go_wp2_with fail
        go_meet
        case rel => exact end2 hV1 HCA.out hgk HKGX.out HKBX.out
      · go_wp2_with fail
        go_meet
        case rel => exact end3 hV1 HCA.out hgk HKGX.out HKBX.out
      · go_wp2_with fail
        go_meet
        case rel => exact end4 hV1 HCA.out hgk HKGX.out HKBX.out
      · go_wp2_with fail
        go_meet
        case rel => exact end5 hV1 HCA.out hgk HKGX.out HKBX.out
      · go_wp2_with fail
        go_meet
        case rel => exact end6 hV1 HCA.out hgk HKGX.out HKBX.out
    case rest =>
      obtain ⟨bb, gm, gk, rfl, hbb, hgm, hne, hkb, hkm, hat, hstb, hbw⟩ := hcut
      clear e1 e2 hmk HKP
      have HAT := hid hat
      have HBW := hid hbw
      obtain ⟨x, hxe⟩ : ∃ x, x = Bx.mk bb gm b N cap gk nd o := ⟨_, rfl⟩
      have HOK : Hid (x.Ok) := by rw [hxe]; exact box_ok hne hV2 HX.out HKF.out (fun i hi => (HFT.out i hi).2) (by omega) (by omega) hkb hkm
      have HTR : Hid (Stb x.S wc x.Tree) := by
        rw [hxe]
        refine fun W hW => ⟨?_, hstb W hW⟩
        have h1 : Below w.heap.size w W := (HB1.out.trans (HBW.out.mono HB1.out.size)).trans (hW.below (Nat.le_trans HB1.out.size HBW.out.size) (by rintro k (rfl | rfl) <;> omega))
        exact HN.out.below h1 hb
      have HAX : Hid (x.At wc (fun _ => 0) 0 0) := by rw [hxe]; exact HAT.out
      have HXE := hid hxe
      have HSB : Hid (∀ W, Sv x.S wc W → Below w1.heap.size w1 W) := fun W hW => HBW.out.trans (hW.below HBW.out.size (by rw [HXE.out]; rintro k (rfl | rfl) <;> omega))
      obtain ⟨-, -, f2, -, -, -, -⟩ := hat.five
      clear hat hstb hbw hxe r0 r1 r2 r3
      go_wp2
      clear f2
      go_loopw [23] (fun i wr => ∃ j : Nat, j ≤ N ∧ i = .int .i64 j ∧ x.At wr (fun i => if i < j then -1 else 0) 0 0 ∧ Sv x.S wc wr) (fun i _ => N - (intOf i).toNat)
      case atStart => exact ⟨0, Nat.zero_le _, rfl, HAX.out, Sv.refl _ _⟩
      case round =>
        obtain ⟨j, hj, rfl, hatw, hsvw⟩ := hrel
        have HATW := hid hatw
        have HSVW := hid hsvw
        have f2 : wr.cell? ⟨bb, 2, none⟩ = some (.slice (some ⟨gm, 0, none⟩) N N) := by have := hatw.five.2.2.1; rw [HXE.out] at this; exact this
        clear hatw hsvw
        by_cases hlt : j < N
        · obtain ⟨b0, b1⟩ : wr.cell? ⟨gm, j, none⟩ = some (.int .i64 0) ∧ wr.frozen? ⟨gm, j, none⟩ = false := by
            have := HATW.out.2.cell j (by rw [HXE.out]; exact hlt)
            rw [HXE.out, if_neg (Nat.lt_irrefl _)] at this
            exact this
          have HNX : Hid (x.At (wr.setCell ⟨gm, j, none⟩ (.int .i64 (-1))) (fun i => if i < j + 1 then -1 else 0) 0 0 ∧ Sv x.S wc (wr.setCell ⟨gm, j, none⟩ (.int .i64 (-1)))) := by
            have e : x.gb = gm := by rw [HXE.out]
            have h1 := at_set HOK.out.ne HATW.out (by rw [HXE.out]; exact hlt)
            rw [e] at h1
            exact ⟨h1, HSVW.out.setCell (p := ⟨gm, j, none⟩) (.inl (.inr e.symm)) _⟩
          go_wp2
          go_roundw
          case rel => exact ⟨j + 1, by omega, by go_num, HNX.out.1, HNX.out.2⟩
          case measure => simp [intOf]; omega
        · obtain rfl : j = N := by omega
          have tw : wr.cell? ⟨w.heap.size, 0, none⟩ = some (.slice (some ⟨b, 0, none⟩) j cap) := ((HSB.out _ HSVW.out).cell (p := ⟨w.heap.size, 0, none⟩) (by show w.heap.size < w1.heap.size; omega)).trans t1
          have hwrs := HSVW.out.size
          have hws := HBW.out.size
          clear f2
          have HM : Hid (x.N = j ∧ x.nd = nd ∧ x.o = o ∧ x.bb = bb ∧ x.gb = gm) := by rw [HXE.out]; exact ⟨rfl, rfl, rfl, rfl, rfl⟩
          have HENV : Hid (∀ W, Below w1.heap.size w1 W → BEnv W) := fun W hW => HE.out.below (HB1.out.trans (hW.mono HB1.out.size)) HE.out.pos
          have HWK : Hid (∀ a bn W, x.At W bn 0 0 → Stb x.S W x.Tree → Kn x.S W (.pointer a) builtEnv → Calls Tryd.prog 51 #[.pointer (some ⟨bb, 0, none⟩), .int .i64 ((j : Int) - 1), .pointer a] W fun e w' => e = .returned (.tuple #[]) ∧ x.Ends W w' bn (0, 0) (treeE nd o j)) := fun a bn W h1 h2 h3 => by
            have := walk_top x HOK.out (by rw [HM.out.1]; exact hV1) (by rw [HM.out.2.1, HM.out.1]; exact hV3) ((j : Int) - 1) (by rw [HM.out.1]; omega) a bn W h1 h2 h3
            rw [HM.out.2.2.2.1, HM.out.2.1, HM.out.2.2.1, HM.out.1] at this
            exact this
          have HSW := hid (HSB.out _ HSVW.out)
          have hwrap : IntKind.i64.wrap ((j : Int) - 1) = (j : Int) - 1 := by rw [IntKind.wrap_i64]; omega
          go_upto_region 9 with fail
          go_region_held3 (fun W => W.cell? ⟨w.heap.size, 0, none⟩ = some (.slice (some ⟨b, 0, none⟩) j cap)) (first | exact tw4 | exact tw3 | go_keep) (first
            | (go_at_call 52; refine (builtScope_any x.S (wr.drew) HATW.out.lt (HENV.out _ HSW.out.drew)).mono ?_; rintro e w3 ⟨sb, rfl, hkn, hb3⟩; have tw3 : w3.cell? ⟨w.heap.size, 0, none⟩ = some (.slice (some ⟨b, 0, none⟩) j cap) := (hb3.cell (p := ⟨w.heap.size, 0, none⟩) (by show w.heap.size < wr.heap.size; omega)).trans tw; have HKN := hid hkn; have HB3 := hid ((Below.refl wr.heap.size wr).drew.trans hb3); clear hkn hb3)
            | (go_at_call 51; refine (HWK.out _ (fun i => if i < j then -1 else 0) _ (HATW.out.go HB3.out) ((HTR.out.go HSVW.out).go (Sv.of_below HB3.out)) HKN.out).mono ?_; rintro e w4 ⟨rfl, hen⟩; have HEN := hid hen; have tw4 : w4.cell? ⟨w.heap.size, 0, none⟩ = some (.slice (some ⟨b, 0, none⟩) j cap) := ((HSB.out _ (HSVW.out.trans ((Sv.of_below HB3.out).trans hen.1))).cell (p := ⟨w.heap.size, 0, none⟩) (by show w.heap.size < w1.heap.size; omega)).trans t1; clear hen))
          obtain ⟨hsv4, bn, hat4, hbn⟩ := HEN.out
          have HB4 := hid (HSB.out _ (HSVW.out.trans ((Sv.of_below HB3.out).trans hsv4)))
          have hF4 : w4.heap[w.heap.size + 1]? = some (.cells #[.int .i64 0, .int .i64 0] 27 (0, 0)) := (HB4.out.block _ (by omega)).trans hF1
          have HBW4 : Hid (Below w.heap.size w w4) := HB1.out.trans (HB4.out.mono HB1.out.size)
          obtain ⟨r0, r1, r2, r3⟩ : w4.cell? ⟨w.heap.size + 1, 0, none⟩ = some (.int .i64 0) ∧ w4.cell? ⟨w.heap.size + 1, 1, none⟩ = some (.int .i64 0) ∧ w4.frozen? ⟨w.heap.size + 1, 0, none⟩ = false ∧ w4.frozen? ⟨w.heap.size + 1, 1, none⟩ = false := zero2 hF4
          obtain ⟨-, -, g2, g3, g4, -, -⟩ := hat4.five
          rw [HM.out.2.2.2.1, HM.out.2.2.2.2, HM.out.1] at g2
          rw [HM.out.2.2.2.1] at g3 g4
          have HAT4 := hid hat4
          have HBN := hid hbn
          clear hat4 hbn hsv4 HEN tw tw3 tw4 hwrap HWK
          cases hfl : fls (treeE nd o j) with
          | nil =>
            rw [hfl] at g3 g4
            change w4.cell? ⟨bb, 3, none⟩ = some (.int .i64 0) at g3
            change w4.cell? ⟨bb, 4, none⟩ = some (.int .i64 0) at g4
            have HFL := hid hfl
            clear hfl
            have q0 := ret2 hF4 (.int .i64 0) (.int .i64 0)
            obtain ⟨q1, q2⟩ := q0
            have HFIN : Hid (Below w.heap.size w ((w4.setCell ⟨w.heap.size + 1, 0, none⟩ (.int .i64 0)).setCell ⟨w.heap.size + 1, 1, none⟩ (.int .i64 0)) ∧ BnAt ((w4.setCell ⟨w.heap.size + 1, 0, none⟩ (.int .i64 0)).setCell ⟨w.heap.size + 1, 1, none⟩ (.int .i64 0)) gm j (apB (fun _ => -1) (treeE nd o j))) := by
              refine ⟨(HBW4.out.setCell (p := ⟨w.heap.size + 1, 0, none⟩) (Nat.le_succ _) _).setCell (p := ⟨w.heap.size + 1, 1, none⟩) (Nat.le_succ _) _, ?_⟩
              obtain ⟨cur, u1, u2, u3⟩ := HAT4.out.2
              rw [HM.out.2.2.2.2] at u1
              rw [HM.out.1] at u2 u3
              have e := HBN.out HFL.out
              refine ⟨cur, (Below.heap_setCell _ _ _ _ (by show gm ≠ w.heap.size + 1; omega)).trans ((Below.heap_setCell _ _ _ _ (by show gm ≠ w.heap.size + 1; omega)).trans u1), u2, fun i hi => ?_⟩
              rw [u3 i hi, e, apB_at _ (fun i => if i < j then -1 else 0) (fun _ => -1) i (if_pos hi)]
            clear hF4
            go_wp2
            clear r0 r1 r2 r3 g2 g3 g4 t1 hF1
            generalize (w4.setCell ⟨w.heap.size + 1, 0, none⟩ (.int .i64 0)).setCell ⟨w.heap.size + 1, 1, none⟩ (.int .i64 0) = w5 at *
            refine bodyPost_ret (v := .tuple #[.slice (some ⟨gm, 0, none⟩) j j, .agg #[.int .i64 0, .int .i64 0]]) (by simp [results, Tryd.results28, go_sem, q1, q2]) rfl ?_
            exact ⟨HFIN.out.1, .inr ⟨o, xx, HV.out, HKF.out, .inr ⟨HFL.out, gm, rfl, by omega, HFIN.out.2⟩⟩⟩
          | cons y l =>
            obtain ⟨k, c⟩ := y
            have hc0 : c ≠ 0 := by
              have h1 := (srt_tree HKF.out hV1 (fun i hi => (HFT.out i hi).2) hV3).2 (k, c) (by rw [hfl]; simp)
              simp only at h1
              omega
            rw [hfl, ft_first k c hc0 l] at g3 g4
            change w4.cell? ⟨bb, 3, none⟩ = some (.int .i64 (c : Nat)) at g3
            change w4.cell? ⟨bb, 4, none⟩ = some (.int .i64 (k : Nat)) at g4
            have HFL := hid hfl
            clear hfl
            have q0 := ret2 hF4 (.int .i64 (c : Nat)) (.int .i64 (k : Nat))
            obtain ⟨q1, q2⟩ := q0
            have HFIN : Hid (Below w.heap.size w ((w4.setCell ⟨w.heap.size + 1, 0, none⟩ (.int .i64 (c : Nat))).setCell ⟨w.heap.size + 1, 1, none⟩ (.int .i64 (k : Nat)))) := (HBW4.out.setCell (p := ⟨w.heap.size + 1, 0, none⟩) (Nat.le_succ _) _).setCell (p := ⟨w.heap.size + 1, 1, none⟩) (Nat.le_succ _) _
            clear hF4
            go_wp2
            go_region
            all_goals go_wp2
            clear r0 r1 r2 r3 g2 g3 g4 t1 hF1
            generalize (w4.setCell ⟨w.heap.size + 1, 0, none⟩ (.int .i64 (c : Nat))).setCell ⟨w.heap.size + 1, 1, none⟩ (.int .i64 (k : Nat)) = w5 at *
            have q3 : w5.drew.cell? ⟨w.heap.size + 1, 0, none⟩ = some (.int .i64 (c : Nat)) := q1
            have q4 : w5.drew.cell? ⟨w.heap.size + 1, 1, none⟩ = some (.int .i64 (k : Nat)) := q2
            refine bodyPost_ret (v := .tuple #[.slice none 0 0, .agg #[.int .i64 (c : Nat), .int .i64 (k : Nat)]]) (by simp [results, Tryd.results28, go_sem, q3, q4]) rfl ?_
            exact ⟨HFIN.out.drew, .inr ⟨o, xx, HV.out, HKF.out, .inl ⟨k, c, l, HFL.out, rfl⟩⟩⟩
  · have HV := hid hV
    clear hV hs1
    have HBE : Hid (Below w.heap.size w ((w1.setCell ⟨w.heap.size + 1, 0, none⟩ (.int .i64 11)).setCell ⟨w.heap.size + 1, 1, none⟩ (.int .i64 0))) := (HB1.out.setCell (p := ⟨w.heap.size + 1, 0, none⟩) (Nat.le_succ _) _).setCell (p := ⟨w.heap.size + 1, 1, none⟩) (Nat.le_succ _) _
    have q0 := set_at (.int .i64 0) (i := 1) (set_at (.int .i64 11) (i := 0) hF1)
    have q1 : ((w1.setCell ⟨w.heap.size + 1, 0, none⟩ (.int .i64 11)).setCell ⟨w.heap.size + 1, 1, none⟩ (.int .i64 0)).cell? ⟨w.heap.size + 1, 0, none⟩ = some (.int .i64 11) := by unfold World.cell?; rw [q0]; rfl
    have q2 : ((w1.setCell ⟨w.heap.size + 1, 0, none⟩ (.int .i64 11)).setCell ⟨w.heap.size + 1, 1, none⟩ (.int .i64 0)).cell? ⟨w.heap.size + 1, 1, none⟩ = some (.int .i64 0) := by unfold World.cell?; rw [q0]; rfl
    clear q0
    go_wp2
    clear r0 r1 r2 r3 t1 hF1
    generalize (w1.setCell ⟨w.heap.size + 1, 0, none⟩ (.int .i64 11)).setCell ⟨w.heap.size + 1, 1, none⟩ (.int .i64 0) = w2 at *
    refine bodyPost_ret (v := .tuple #[.slice none 0 0, .agg #[.int .i64 11, .int .i64 0]]) (by simp [results, Tryd.results28, go_sem, q1, q2]) rfl ?_
    exact ⟨HBE.out, .inl ⟨HV.out, rfl⟩⟩
end Go.Proofs.YtpobfklbbkdglaaDoor
