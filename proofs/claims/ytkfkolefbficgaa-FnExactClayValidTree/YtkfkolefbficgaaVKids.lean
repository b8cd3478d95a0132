import Derived.Test.YtkfkolefbficgaaVRow
namespace Go.Proofs.Ytkfkolefbficgaa
open Go.RowKit
set_option maxRecDepth 20000
/-- What the loop of l2Kids holds behind j nodes. -/
def KInv (nd : Nat → Nd) (B : Nat) (W0 W : World) (j : Nat) (L : List (Nat × Nat × List Nat)) (s : List Nat) (go co gs cs : Nat) : Prop :=
  kidsF nd j = some (L.map (·.2.2), s) ∧ RowAt W 40 go co L.length (gridRow L) ∧ RowAt W 3 gs cs s.length (intRow s) ∧ go ≠ gs ∧ B ≤ go ∧ B ≤ gs ∧
  (∀ x ∈ L, B ≤ x.1 ∧ x.1 ≠ go ∧ x.1 ≠ gs ∧ RowAt W 3 x.1 x.2.1 x.2.2.length (intRow x.2.2)) ∧ Below B W0 W
theorem KInv_step {nd : Nat → Nd} {B : Nat} {W0 W w1 w2 w3 : World} {j k : Nat} {L : List (Nat × Nat × List Nat)} {sp sk : List Nat} {go co gs cs : Nat} (h : KInv nd B W0 W j L (sp ++ sk) go co gs cs) (hB : B ≤ W.heap.size)
    (hk : (nd j).kids = k) (hl : sk.length = k)
    {v1 v2 v3 : Value} {c1 : Array Value} {c2 : Array Value} {t1 t2 t3 : TypeId}
    (o1 : w1.ownsRow B 3 1 v1 k (intRow sk)) (g1 : (W.alloc (.cells #[] t1)).grownBy w1 (some W.heap.size)) (n1 : ¬ v1 = .slice none 0 0) (b1 : v1.ownBlock = some W.heap.size ∨ v1.ownBlock = some (W.alloc (.cells #[] t1)).heap.size)
    (o2 : w2.ownsRow B 40 1 v2 (L.length + 1) (gridRow L ++ [v1])) (g2 : (w1.alloc (.cells c1 t2)).grownBy w2 (some go)) (n2 : ¬ v2 = .slice none 0 0) (b2 : v2.ownBlock = some go ∨ v2.ownBlock = some (w1.alloc (.cells c1 t2)).heap.size)
    (o3 : w3.ownsRow B 3 1 v3 (sp.length + 1) (intRow sp ++ [.int .i64 j])) (g3 : (w2.alloc (.cells c2 t3)).grownBy w3 (some gs)) (n3 : ¬ v3 = .slice none 0 0) (b3 : v3.ownBlock = some gs ∨ v3.ownBlock = some (w2.alloc (.cells c2 t3)).heap.size) :
    ∃ L' s' go' co' gs' cs', v2 = .slice (some ⟨go', 0, none⟩) L'.length co' ∧ v3 = .slice (some ⟨gs', 0, none⟩) s'.length cs' ∧ KInv nd B W0 w3 (j + 1) L' s' go' co' gs' cs' := by
  obtain ⟨h1, h2, h3, h4, h5, h6, h7, h8⟩ := h
  obtain ⟨r1, d1, rfl, rb1, rr1⟩ := RowAt.of_own o1 n1
  obtain ⟨r2, d2, rfl, rb2, rr2⟩ := RowAt.of_own o2 n2
  obtain ⟨r3, d3, rfl, rb3, rr3⟩ := RowAt.of_own o3 n3
  have z2 := h2.lt
  have z3 := h3.lt
  have s1 := g1.size
  have s2 := g2.size
  have s3 := g3.size
  simp only [World.size_alloc] at s1 s2 s3 b1 b2 b3
  simp only [Value.ownBlock, Option.some.injEq] at b1 b2 b3
  have hr1 : W.heap.size ≤ r1 := by omega
  have hr1' : r1 < w1.heap.size := rr1.lt
  have hr2 : r2 = go ∨ w1.heap.size < r2 := by omega
  have hr2' : r2 < w2.heap.size := rr2.lt
  have hr3 : r3 = gs ∨ w2.heap.size < r3 := by omega
  refine ⟨L ++ [(r1, d1, sk)], sp ++ [j], r2, d2, r3, d3, by simp, by simp, ?_, ?_, ?_, by omega, rb2, rb3, ?_, ?_⟩
  · rw [List.map_append]; exact kidsF_good h1 hk hl
  · have e : gridRow (L ++ [(r1, d1, sk)]) = gridRow L ++ [.slice (some ⟨r1, 0, none⟩) k d1] := by simp [gridRow, hl]
    rw [e, List.length_append]
    exact (rr2.alloc _).grown g3 (by intro e; injection e with e; omega)
  · have e : intRow (sp ++ [j]) = intRow sp ++ [.int .i64 j] := by simp [intRow]
    rw [e, List.length_append]
    exact rr3
  · intro x hx
    rcases List.mem_append.1 hx with hx | hx
    · obtain ⟨x1, x2, x3, x4⟩ := h7 x hx
      have xl := x4.lt
      refine ⟨x1, by omega, by omega, ?_⟩
      exact ((((x4.alloc _).grown g1 (by intro e; injection e with e; omega)).alloc _).grown g2 (by intro e; injection e with e; omega)).alloc _ |>.grown g3 (by intro e; injection e with e; omega)
    · simp only [List.mem_singleton] at hx
      subst hx
      refine ⟨rb1, by show r1 ≠ r2; omega, by show r1 ≠ r3; omega, ?_⟩
      have rr : RowAt w1 3 r1 d1 sk.length (intRow sk) := by rw [hl]; simpa using rr1
      exact ((rr.alloc _).grown g2 (by intro e; injection e with e; omega)).alloc _ |>.grown g3 (by intro e; injection e with e; omega)
  · have a1 := (h8.alloc hB (.cells #[] t1)).grown g1 (by simp; omega) (fun k e => by injection e with e; omega)
    have a2 := (a1.alloc (by omega) (.cells c1 t2)).grown g2 (by simp; omega) (fun k e => by injection e with e; omega)
    exact (a2.alloc (by omega) (.cells c2 t3)).grown g3 (by simp; omega) (fun k e => by injection e with e; omega)
end Go.Proofs.Ytkfkolefbficgaa
