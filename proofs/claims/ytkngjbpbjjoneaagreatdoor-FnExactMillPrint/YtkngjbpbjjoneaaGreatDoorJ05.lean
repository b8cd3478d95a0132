import Derived.Test.YtkngjbpbjjoneaaGreatDoorJ01
/-! Rows of nodes and of numbers; how high nodes lie; what a valid tree is. -/
namespace Go.Proofs.YtkngjbpbjjoneaaGreatDoor.Q
open Go.RowKit Go.Shelf
set_option maxRecDepth 20000
def ndV (x : Nd) : Value := .agg #[.int .i64 x.kind, .int .i64 x.op, .int .i64 x.ty, .int .i64 x.n, .string x.text, .int .i64 x.kids]
/-- The six cells of the i-th node. -/
def NodeAt (W : World) (b i : Nat) (x : Nd) : Prop :=
  W.cell? ⟨b, i * 6, none⟩ = some (.int .i64 x.kind) ∧ W.cell? ⟨b, i * 6 + 1, none⟩ = some (.int .i64 x.op) ∧ W.cell? ⟨b, i * 6 + 2, none⟩ = some (.int .i64 x.ty) ∧ W.cell? ⟨b, i * 6 + 3, none⟩ = some (.int .i64 x.n) ∧ W.cell? ⟨b, i * 6 + 4, none⟩ = some (.string x.text) ∧ W.cell? ⟨b, i * 6 + 5, none⟩ = some (.int .i64 x.kids)
theorem NodeAt.below {W W' : World} {B b i : Nat} {x : Nd} (h : NodeAt W b i x) (hb : Below B W W') (hB : b < B) : NodeAt W' b i x := by
  obtain ⟨h0, h1, h2, h3, h4, h5⟩ := h
  exact ⟨(hb.cell (p := ⟨b, _, none⟩) hB).trans h0, (hb.cell (p := ⟨b, _, none⟩) hB).trans h1, (hb.cell (p := ⟨b, _, none⟩) hB).trans h2, (hb.cell (p := ⟨b, _, none⟩) hB).trans h3, (hb.cell (p := ⟨b, _, none⟩) hB).trans h4, (hb.cell (p := ⟨b, _, none⟩) hB).trans h5⟩
def NodesAt (W : World) (b N : Nat) (nd : Nat → Nd) : Prop := ∀ i, i < N → NodeAt W b i (nd i)
theorem NodesAt.below {W W' : World} {B b N : Nat} {nd : Nat → Nd} (h : NodesAt W b N nd) (hb : Below B W W') (hB : b < B) : NodesAt W' b N nd := fun i hi => (h i hi).below hb hB
theorem btree {w wr : World} {X : Obj} (h : Below (w.heap.size + 1) (w.alloc X) wr) : Below w.heap.size w wr :=
  Below.trans ((Below.refl w.heap.size w).alloc (Nat.le_refl _) X) (h.mono (B' := w.heap.size) (Nat.le_succ _))
theorem tree_cell {w wr : World} {v : Value} {t : TypeId} (h : Below (w.heap.size + 1) (w.alloc (.cells #[v] t)) wr) : wr.cell? ⟨w.heap.size, 0, none⟩ = some v := by
  rw [h.cell (p := ⟨w.heap.size, 0, none⟩) (Nat.lt_succ_self _), cell_new_row]; rfl
/-- A row of one-cell elements in block g: n of cap are in use and hold xs. -/
def RowAt (W : World) (e : TypeId) (g cap n : Nat) (xs : List Value) : Prop := xs.length = n ∧ n ≤ cap ∧ cap ≤ maxLen ∧ ∃ cur, W.heap[g]? = some (.cells cur e (0, 0)) ∧ cur.size = cap ∧ cur.toList.take n = xs
theorem RowAt.own {W : World} {B : Nat} {e : TypeId} {g cap n : Nat} {xs : List Value} (h : RowAt W e g cap n xs) (hB : B ≤ g) : W.ownsRow B e 1 (.slice (some ⟨g, 0, none⟩) n cap) n xs := by
  obtain ⟨h1, h2, h3, cur, h4, h5, h6⟩ := h
  exact ⟨by omega, .inr ⟨g, cap, cur, rfl, hB, h4, h2, h3, by omega, by rw [Nat.mul_one]; exact h6⟩⟩
theorem RowAt.of_own {W : World} {B : Nat} {e : TypeId} {v : Value} {n : Nat} {xs : List Value} (h : W.ownsRow B e 1 v n xs) (hv : ¬ v = .slice none 0 0) : ∃ g cap, v = .slice (some ⟨g, 0, none⟩) n cap ∧ B ≤ g ∧ RowAt W e g cap n xs := by
  obtain ⟨h1, ⟨h2, _⟩ | ⟨g, cap, cur, h2, h3, h4, h5, h6, h7, h8⟩⟩ := h
  · exact absurd h2 hv
  · exact ⟨g, cap, h2, h3, by omega, h5, h6, cur, h4, by omega, by rw [Nat.mul_one] at h8; exact h8⟩
theorem RowAt.lt {W : World} {e : TypeId} {g cap n : Nat} {xs : List Value} (h : RowAt W e g cap n xs) : g < W.heap.size := by
  obtain ⟨_, _, _, cur, h4, _⟩ := h
  exact (Array.getElem?_eq_some_iff.1 h4).1
theorem RowAt.keep {W W' : World} {e : TypeId} {g cap n : Nat} {xs : List Value} (h : RowAt W e g cap n xs) (hk : W'.heap[g]? = W.heap[g]?) : RowAt W' e g cap n xs := by
  obtain ⟨h1, h2, h3, cur, h4, h5⟩ := h
  exact ⟨h1, h2, h3, cur, hk.trans h4, h5⟩
theorem RowAt.alloc {W : World} {e : TypeId} {g cap n : Nat} {xs : List Value} (h : RowAt W e g cap n xs) (o : Obj) : RowAt (W.alloc o) e g cap n xs := h.keep (Below.heap_alloc W o g h.lt)
theorem RowAt.grown {W W' : World} {e : TypeId} {g cap n : Nat} {xs : List Value} {row : Option Nat} (h : RowAt W e g cap n xs) (hg : W.grownBy W' row) (hne : row ≠ some g) : RowAt W' e g cap n xs := h.keep (hg.block g h.lt (fun e => hne e.symm))
theorem RowAt.below {W W' : World} {e : TypeId} {g cap n B : Nat} {xs : List Value} (h : RowAt W e g cap n xs) (hb : Below B W W') (hB : g < B) : RowAt W' e g cap n xs := h.keep (hb.block g hB)
theorem RowAt.front {W : World} {e : TypeId} {g cap n : Nat} {xs ys : List Value} (h : RowAt W e g cap n (xs ++ ys)) : RowAt W e g cap xs.length xs := by
  obtain ⟨h1, h2, h3, cur, h4, h5, h6⟩ := h
  rw [List.length_append] at h1
  refine ⟨rfl, by omega, h3, cur, h4, h5, ?_⟩
  have : (cur.toList.take n).take xs.length = (xs ++ ys).take xs.length := by rw [h6]
  rw [List.take_take, Nat.min_eq_left (by omega)] at this
  rw [this]; simp
theorem RowAt.cell {W : World} {e : TypeId} {g cap n : Nat} {xs : List Value} (h : RowAt W e g cap n xs) (i : Nat) (hi : i < n) : W.cell? ⟨g, i, none⟩ = xs[i]? := by
  obtain ⟨h1, h2, h3, cur, h4, h5, h6⟩ := h
  have e1 : W.cell? ⟨g, i, none⟩ = cur[i]? := by unfold World.cell?; rw [h4]; rfl
  rw [e1, ← h6, List.getElem?_take_of_lt hi]; simp
def intRow (s : List Nat) : List Value := s.map fun (x : Nat) => Value.int .i64 (x : Int)
theorem intRow_length (s : List Nat) : (intRow s).length = s.length := by simp [intRow]
theorem intRow_append (s t : List Nat) : intRow (s ++ t) = intRow s ++ intRow t := by simp [intRow]
theorem intRow_one (s : List Nat) : ∀ u ∈ intRow s, u.oneCell' = true := by
  intro u hu
  obtain ⟨x, _, rfl⟩ := List.mem_map.1 hu
  rfl
/-- Rows: their blocks, capacities and numbers. -/
def gridRow (L : List (Nat × Nat × List Nat)) : List Value := L.map fun x => Value.slice (some ⟨x.1, 0, none⟩) x.2.2.length x.2.1
theorem gridRow_length (L : List (Nat × Nat × List Nat)) : (gridRow L).length = L.length := by simp [gridRow]
theorem info_int : (Tryz.prog.info? 3).map (fun i => (i.zero, i.size, i.bytes)) = some (some (.int .i64 0), 1, 8) := by kernel_rfl
theorem info_ints : (Tryz.prog.info? 42).map (fun i => (i.zero, i.size, i.bytes)) = some (some (.slice none 0 0), 1, 24) := by kernel_rfl
/-- The kids of each of the first j nodes, and what is open behind them. -/
def kidsF (nd : Nat → Nd) : Nat → Option (List (List Nat) × List Nat)
  | 0 => some ([], [])
  | j + 1 => match kidsF nd j with
    | none => none
    | some (o, s) => if 0 ≤ (nd j).kids ∧ (nd j).kids ≤ s.length then some (o ++ [s.drop (s.length - (nd j).kids.toNat)], s.take (s.length - (nd j).kids.toNat) ++ [j]) else none
theorem kidsF_len (nd : Nat → Nd) (j : Nat) (o : List (List Nat)) (s : List Nat) (h : kidsF nd j = some (o, s)) : o.length = j ∧ s.length ≤ j ∧ (∀ x ∈ s, x < j) := by
  induction j generalizing o s with
  | zero => simp [kidsF] at h; obtain ⟨rfl, rfl⟩ := h; simp
  | succ j ih =>
    simp only [kidsF] at h
    cases hk : kidsF nd j with
    | none => rw [hk] at h; cases h
    | some x =>
      obtain ⟨o', s'⟩ := x
      rw [hk] at h
      obtain ⟨i1, i2, i3⟩ := ih o' s' hk
      dsimp only at h
      split at h
      · cases h
        refine ⟨by simp [i1], by simp; omega, ?_⟩
        intro x hx
        rcases List.mem_append.1 hx with hx | hx
        · have := i3 x (List.mem_of_mem_take hx); omega
        · simp at hx; omega
      · cases h
theorem kidsF_bad {nd : Nat → Nd} {j : Nat} {o : List (List Nat)} {s : List Nat} (h : kidsF nd j = some (o, s)) (hb : ¬ (0 ≤ (nd j).kids ∧ (nd j).kids ≤ s.length)) (N : Nat) (hN : j < N) : kidsF nd N = none := by
  have h1 : kidsF nd (j + 1) = none := by simp only [kidsF]; rw [h]; simp only; rw [if_neg hb]
  induction N with
  | zero => omega
  | succ N ih =>
    by_cases e : j = N
    · subst e; exact h1
    · simp only [kidsF]; rw [ih (by omega)]
theorem kidsF_good {nd : Nat → Nd} {j k : Nat} {o : List (List Nat)} {sp sk : List Nat} (h : kidsF nd j = some (o, sp ++ sk)) (hk : (nd j).kids = k) (hl : sk.length = k) : kidsF nd (j + 1) = some (o ++ [sk], sp ++ [j]) := by
  have e : (sp ++ sk).length - ((k : Int)).toNat = sp.length := by simp; omega
  simp only [kidsF]; rw [h]; simp only
  rw [hk, if_pos ⟨by omega, by simp; omega⟩, e]
  simp
/-- What the loop of l2Kids holds behind j nodes. -/
def KInv (nd : Nat → Nd) (B : Nat) (W0 W : World) (j : Nat) (L : List (Nat × Nat × List Nat)) (s : List Nat) (go co gs cs : Nat) : Prop :=
  kidsF nd j = some (L.map (·.2.2), s) ∧ RowAt W 42 go co L.length (gridRow L) ∧ RowAt W 3 gs cs s.length (intRow s) ∧ go ≠ gs ∧ B ≤ go ∧ B ≤ gs ∧
  (∀ x ∈ L, B ≤ x.1 ∧ x.1 ≠ go ∧ x.1 ≠ gs ∧ RowAt W 3 x.1 x.2.1 x.2.2.length (intRow x.2.2)) ∧ Below B W0 W
theorem KInv_step {nd : Nat → Nd} {B : Nat} {W0 W w1 w2 w3 : World} {j k : Nat} {L : List (Nat × Nat × List Nat)} {sp sk : List Nat} {go co gs cs : Nat} (h : KInv nd B W0 W j L (sp ++ sk) go co gs cs) (hB : B ≤ W.heap.size)
    (hk : (nd j).kids = k) (hl : sk.length = k)
    {v1 v2 v3 : Value} {c1 : Array Value} {c2 : Array Value} {t1 t2 t3 : TypeId}
    (o1 : w1.ownsRow B 3 1 v1 k (intRow sk)) (g1 : (W.alloc (.cells #[] t1)).grownBy w1 (some W.heap.size)) (n1 : ¬ v1 = .slice none 0 0) (b1 : v1.ownBlock = some W.heap.size ∨ v1.ownBlock = some (W.alloc (.cells #[] t1)).heap.size)
    (o2 : w2.ownsRow B 42 1 v2 (L.length + 1) (gridRow L ++ [v1])) (g2 : (w1.alloc (.cells c1 t2)).grownBy w2 (some go)) (n2 : ¬ v2 = .slice none 0 0) (b2 : v2.ownBlock = some go ∨ v2.ownBlock = some (w1.alloc (.cells c1 t2)).heap.size)
    (o3 : w3.ownsRow B 3 1 v3 (sp.length + 1) (intRow sp ++ [.int .i64 j])) (g3 : (w2.alloc (.cells c2 t3)).grownBy w3 (some gs)) (n3 : ¬ v3 = .slice none 0 0) (b3 : v3.ownBlock = some gs ∨ v3.ownBlock = some (w2.alloc (.cells c2 t3)).heap.size) :
    ∃ L' s' go' co' gs' cs', v2 = .slice (some ⟨go', 0, none⟩) L'.length co' ∧ v3 = .slice (some ⟨gs', 0, none⟩) s'.length cs' ∧ KInv nd B W0 w3 (j + 1) L' s' go' co' gs' cs' := by
  obtain ⟨h1, h2, h3, h4, h5, h6, h7, h8⟩ := h
  obtain ⟨r1, d1, rfl, rb1, rr1⟩ := RowAt.of_own o1 n1
  obtain ⟨r2, d2, rfl, rb2, rr2⟩ := RowAt.of_own o2 n2
  obtain ⟨r3, d3, rfl, rb3, rr3⟩ := RowAt.of_own o3 n3
  have z2 := h2.lt
  have z3 := h3.lt
  have s1 := g1.size
  have s2 := g2.size
  have s3 := g3.size
  simp only [World.size_alloc] at s1 s2 s3 b1 b2 b3
  simp only [Value.ownBlock, Option.some.injEq] at b1 b2 b3
  have hr1 : W.heap.size ≤ r1 := by omega
  have hr1' : r1 < w1.heap.size := rr1.lt
  have hr2 : r2 = go ∨ w1.heap.size < r2 := by omega
  have hr2' : r2 < w2.heap.size := rr2.lt
  have hr3 : r3 = gs ∨ w2.heap.size < r3 := by omega
  refine ⟨L ++ [(r1, d1, sk)], sp ++ [j], r2, d2, r3, d3, by simp, by simp, ?_, ?_, ?_, by omega, rb2, rb3, ?_, ?_⟩
  · rw [List.map_append]; exact kidsF_good h1 hk hl
  · have e : gridRow (L ++ [(r1, d1, sk)]) = gridRow L ++ [.slice (some ⟨r1, 0, none⟩) k d1] := by simp [gridRow, hl]
    rw [e, List.length_append]
    exact (rr2.alloc _).grown g3 (by intro e; injection e with e; omega)
  · have e : intRow (sp ++ [j]) = intRow sp ++ [.int .i64 j] := by simp [intRow]
    rw [e, List.length_append]
    exact rr3
  · intro x hx
    rcases List.mem_append.1 hx with hx | hx
    · obtain ⟨x1, x2, x3, x4⟩ := h7 x hx
      have xl := x4.lt
      refine ⟨x1, by omega, by omega, ?_⟩
      exact ((((x4.alloc _).grown g1 (by intro e; injection e with e; omega)).alloc _).grown g2 (by intro e; injection e with e; omega)).alloc _ |>.grown g3 (by intro e; injection e with e; omega)
    · simp only [List.mem_singleton] at hx
      subst hx
      refine ⟨rb1, by show r1 ≠ r2; omega, by show r1 ≠ r3; omega, ?_⟩
      have rr : RowAt w1 3 r1 d1 sk.length (intRow sk) := by rw [hl]; simpa using rr1
      exact ((rr.alloc _).grown g2 (by intro e; injection e with e; omega)).alloc _ |>.grown g3 (by intro e; injection e with e; omega)
  · have a1 := (h8.alloc hB (.cells #[] t1)).grown g1 (by simp; omega) (fun k e => by injection e with e; omega)
    have a2 := (a1.alloc (by omega) (.cells c1 t2)).grown g2 (by simp; omega) (fun k e => by injection e with e; omega)
    exact (a2.alloc (by omega) (.cells c2 t3)).grown g3 (by simp; omega) (fun k e => by injection e with e; omega)
def upK (l : List Nat) : Nat := l.foldl (fun h x => max h (x + 1)) 0
theorem upK_snoc (l : List Nat) (x : Nat) : upK (l ++ [x]) = max (upK l) (x + 1) := by simp [upK]
def kidHighs (hs ks : List Nat) : List Nat := ks.map fun k => hs.getD k 0
def highs (o : List (List Nat)) : List Nat := o.foldl (fun hs ks => hs ++ [upK (kidHighs hs ks)]) []
theorem highs_snoc (o : List (List Nat)) (ks : List Nat) : highs (o ++ [ks]) = highs o ++ [upK (kidHighs (highs o) ks)] := by simp [highs]
theorem highs_length (o : List (List Nat)) : (highs o).length = o.length := by
  have : ∀ n, ∀ o : List (List Nat), o.length = n → (highs o).length = o.length := by
    intro n
    induction n with
    | zero => intro o h; rw [List.length_eq_zero_iff.1 h]; rfl
    | succ n ih =>
      intro o h
      obtain ⟨o', ks, rfl⟩ := (List.eq_nil_or_concat o).resolve_left (by rintro rfl; cases h)
      rw [List.concat_eq_append] at h ⊢
      rw [highs_snoc, List.length_append, List.length_append, ih o' (by simp at h; exact h)]
      rfl
  exact this _ o rfl
theorem highs_take (o : List (List Nat)) (i : Nat) (hi : i < o.length) : highs (o.take (i + 1)) = highs (o.take i) ++ [upK (kidHighs (highs (o.take i)) (o.getD i []))] := by
  rw [List.take_succ_eq_append_getElem hi, highs_snoc, List.getD_eq_getElem?_getD, List.getElem?_eq_getElem hi]
  rfl
theorem highs_pre (o : List (List Nat)) (j : Nat) : ∀ i, i < j → j ≤ o.length → (highs (o.take j)).getD i 0 = (highs o).getD i 0 := by
  have : ∀ d, ∀ j, j + d = o.length → ∀ i, i < j → (highs (o.take j)).getD i 0 = (highs o).getD i 0 := by
    intro d
    induction d with
    | zero => intro j h i _; rw [List.take_of_length_le (by omega)]
    | succ d ih =>
      intro j h i hi
      rw [← ih (j + 1) (by omega) i (by omega), highs_take o j (by omega)]
      rw [List.getD_eq_getElem?_getD, List.getD_eq_getElem?_getD, List.getElem?_append_left (by rw [highs_length, List.length_take]; omega)]
  intro i hi hj
  exact this (o.length - j) j (by omega) i hi
theorem upK_le {l : List Nat} {x : Nat} (h : x ∈ l) : x + 1 ≤ upK l := by
  have : ∀ n, ∀ l : List Nat, l.length = n → x ∈ l → x + 1 ≤ upK l := by
    intro n
    induction n with
    | zero => intro l h hx; rw [List.length_eq_zero_iff.1 h] at hx; cases hx
    | succ n ih =>
      intro l h hx
      obtain ⟨l', y, rfl⟩ := (List.eq_nil_or_concat l).resolve_left (by rintro rfl; cases h)
      rw [List.concat_eq_append] at h hx ⊢
      rw [upK_snoc]
      rcases List.mem_append.1 hx with hx | hx
      · have := ih l' (by simp at h; exact h) hx
        omega
      · simp at hx; omega
  exact this _ l rfl h
/-- The i-th node fits to its kids. -/
def FitAt (nd : Nat → Nd) (o : List (List Nat)) (i : Nat) : Prop := PlainNd (nd i) ∧ KidsOk (nd i) (o.getD i []).length (fun k => (nd ((o.getD i []).getD k 0)).kind)
def ValidT (nd : Nat → Nd) (N : Nat) : Prop := 1 ≤ N ∧ N ≤ 12001 ∧ (nd (N - 1)).kind = 24 ∧ ∃ o x, kidsF nd N = some (o, [x]) ∧ ∀ i, i < N → (highs o).getD i 0 ≤ 60 ∧ FitAt nd o i
theorem kidsF_step {nd : Nat → Nd} {j : Nat} {o : List (List Nat)} {s : List Nat} (h : kidsF nd (j + 1) = some (o, s)) : ∃ o' sp sk, kidsF nd j = some (o', sp ++ sk) ∧ o = o' ++ [sk] ∧ s = sp ++ [j] ∧ (nd j).kids = sk.length := by
  simp only [kidsF] at h
  cases hk : kidsF nd j with
  | none => rw [hk] at h; cases h
  | some x =>
    obtain ⟨o', s'⟩ := x
    rw [hk] at h
    dsimp only at h
    split at h
    · rename_i hc
      cases h
      refine ⟨o', _, _, by rw [List.take_append_drop], rfl, rfl, ?_⟩
      rw [List.length_drop]; omega
    · cases h
theorem kidsF_pre {nd : Nat → Nd} {N : Nat} {o : List (List Nat)} {s : List Nat} (h : kidsF nd N = some (o, s)) (j : Nat) (hj : j ≤ N) : ∃ s', kidsF nd j = some (o.take j, s') := by
  induction N generalizing o s with
  | zero => obtain rfl : j = 0 := by omega
            simp [kidsF] at h ⊢
  | succ N ih =>
    by_cases e : j = N + 1
    · subst e
      have := (kidsF_len nd _ _ _ h).1
      exact ⟨s, by rw [List.take_of_length_le (by omega)]; exact h⟩
    · obtain ⟨o', sp, sk, h1, rfl, rfl, _⟩ := kidsF_step h
      have := (kidsF_len nd _ _ _ h1).1
      rw [List.take_append_of_le_length (by omega)]
      exact ih h1 (by omega)
theorem kidsF_cover {nd : Nat → Nd} {j : Nat} {o : List (List Nat)} {s : List Nat} (h : kidsF nd j = some (o, s)) : ∀ i, i < j → ∃ y, y ∈ s ∧ (highs o).getD i 0 ≤ (highs o).getD y 0 := by
  induction j generalizing o s with
  | zero => intro i hi; omega
  | succ j ih =>
    intro i hi
    obtain ⟨o', sp, sk, h1, rfl, rfl, _⟩ := kidsF_step h
    have hl := kidsF_len nd _ _ _ h1
    have hh : (highs o').length = j := by rw [highs_length]; exact hl.1
    have old : ∀ y, y < j → (highs o' ++ [upK (kidHighs (highs o') sk)]).getD y 0 = (highs o').getD y 0 := fun y hy => by
      rw [List.getD_eq_getElem?_getD, List.getD_eq_getElem?_getD, List.getElem?_append_left (by omega)]
    have new : (highs o' ++ [upK (kidHighs (highs o') sk)]).getD j 0 = upK (kidHighs (highs o') sk) := by
      rw [List.getD_eq_getElem?_getD, List.getElem?_append_right (by omega), hh]; simp
    rw [highs_snoc]
    by_cases e : i = j
    · subst e; exact ⟨i, by simp, Nat.le_refl _⟩
    · obtain ⟨y, hy, hle⟩ := ih h1 i (by omega)
      have hyj := hl.2.2 y hy
      rcases List.mem_append.1 hy with hy | hy
      · exact ⟨y, by simp [hy], by rw [old i (by omega), old y hyj]; exact hle⟩
      · refine ⟨j, by simp, ?_⟩
        rw [old i (by omega), new]
        have := upK_le (l := kidHighs (highs o') sk) (x := (highs o').getD y 0) (List.mem_map.2 ⟨y, hy, rfl⟩)
        omega
theorem valid_end {nd : Nat → Nd} {N : Nat} {o : List (List Nat)} {s : List Nat} (hN : N ≤ 12001) (h : kidsF nd N = some (o, s)) (hf : ∀ i, i < N → FitAt nd o i) : ValidT nd N ↔ s.length = 1 ∧ (nd (s.getD 0 0)).kind = 24 ∧ (highs o).getD (s.getD 0 0) 0 ≤ 60 := by
  cases N with
  | zero =>
    simp [kidsF] at h
    obtain ⟨rfl, rfl⟩ := h
    constructor
    · rintro ⟨h, _⟩; omega
    · rintro ⟨h, _⟩; cases h
  | succ N =>
    obtain ⟨o', sp, sk, h1, ho, hs, _⟩ := kidsF_step h
    constructor
    · rintro ⟨_, _, h3, o2, x, h4, h5⟩
      rw [h] at h4
      cases h4
      have hx : x = N := by
        cases sp with
        | nil => simp at hs; exact hs
        | cons a t => cases t <;> simp at hs
      subst hx
      exact ⟨rfl, by simpa using h3, by simpa using (h5 x (by omega)).1⟩
    · rintro ⟨h3, h4, h5⟩
      obtain ⟨x, hx⟩ := List.length_eq_one_iff.1 h3
      subst hx
      have hx : x = N := by
        cases sp with
        | nil => simp at hs; exact hs
        | cons a t => cases t <;> simp at hs
      subst hx
      refine ⟨by omega, hN, by simpa using h4, o, x, h, fun i hi => ⟨?_, hf i hi⟩⟩
      obtain ⟨y, hy, hle⟩ := kidsF_cover h i hi
      simp at hy
      subst hy
      simp at h5
      simp at hle ⊢
      omega
theorem invalid_at {nd : Nat → Nd} {N j : Nat} {o : List (List Nat)} {sp sk : List Nat} (hj : j < N) (h : kidsF nd j = some (o, sp ++ sk)) (hk : (nd j).kids = sk.length) (hb : ¬ (PlainNd (nd j) ∧ KidsOk (nd j) sk.length (fun k => (nd (sk.getD k 0)).kind))) : ¬ ValidT nd N := by
  rintro ⟨_, _, _, O, x, h4, h5⟩
  obtain ⟨s', h6⟩ := kidsF_pre h4 (j + 1) (by omega)
  rw [kidsF_good h hk rfl] at h6
  injection h6 with h6
  injection h6 with h6 _
  have hl := kidsF_len nd _ _ _ h
  have hO := (kidsF_len nd _ _ _ h4).1
  have e : O.getD j [] = sk := by
    have : (O.take (j + 1))[j]? = (o ++ [sk])[j]? := by rw [h6]
    rw [List.getElem?_take_of_lt (by omega), List.getElem?_append_right (by omega), hl.1] at this
    rw [List.getD_eq_getElem?_getD, this]; simp
  have := (h5 j hj).2
  unfold FitAt at this
  rw [e] at this
  exact hb this
theorem FitAt_snoc {nd : Nat → Nd} {o : List (List Nat)} {sk : List Nat} (h : ∀ i, i < o.length → FitAt nd o i) (hn : PlainNd (nd o.length) ∧ KidsOk (nd o.length) sk.length (fun k => (nd (sk.getD k 0)).kind)) : ∀ i, i < o.length + 1 → FitAt nd (o ++ [sk]) i := by
  intro i hi
  unfold FitAt
  by_cases e : i = o.length
  · subst e
    have : (o ++ [sk]).getD o.length [] = sk := by rw [List.getD_eq_getElem?_getD, List.getElem?_append_right (Nat.le_refl _)]; simp
    rw [this]; exact hn
  · have : (o ++ [sk]).getD i [] = o.getD i [] := by rw [List.getD_eq_getElem?_getD, List.getD_eq_getElem?_getD, List.getElem?_append_left (by omega)]
    rw [this]; exact h i (by omega)
theorem kids_lt {nd : Nat → Nd} {N : Nat} {O : List (List Nat)} {s : List Nat} (h : kidsF nd N = some (O, s)) (j : Nat) (hj : j < N) : ∀ y ∈ O.getD j [], y < j := by
  obtain ⟨s', h6⟩ := kidsF_pre h (j + 1) (by omega)
  obtain ⟨o', sp, sk, h1, h2, _, _⟩ := kidsF_step h6
  have hl := kidsF_len nd _ _ _ h1
  have hO := (kidsF_len nd _ _ _ h).1
  have e : O.getD j [] = sk := by
    have : (O.take (j + 1))[j]? = (o' ++ [sk])[j]? := by rw [h2]
    rw [List.getElem?_take_of_lt (by omega), List.getElem?_append_right (by omega), hl.1] at this
    rw [List.getD_eq_getElem?_getD, this]; simp
  intro y hy
  rw [e] at hy
  exact hl.2.2 y (by simp [hy])
theorem kids_len_le {nd : Nat → Nd} {N : Nat} {O : List (List Nat)} {s : List Nat} (h : kidsF nd N = some (O, s)) (j : Nat) (hj : j < N) : (O.getD j []).length ≤ j := by
  obtain ⟨s', h6⟩ := kidsF_pre h (j + 1) (by omega)
  obtain ⟨o', sp, sk, h1, h2, _, _⟩ := kidsF_step h6
  have hl := kidsF_len nd _ _ _ h1
  have hO := (kidsF_len nd _ _ _ h).1
  have e : O.getD j [] = sk := by
    have : (O.take (j + 1))[j]? = (o' ++ [sk])[j]? := by rw [h2]
    rw [List.getElem?_take_of_lt (by omega), List.getElem?_append_right (by omega), hl.1] at this
    rw [List.getD_eq_getElem?_getD, this]; simp
  rw [e]
  have := hl.2.1
  rw [List.length_append] at this
  omega
theorem upK_take (l : List Nat) (q : Nat) (hq : q < l.length) : upK (l.take (q + 1)) = max (upK (l.take q)) (l[q] + 1) := by
  rw [List.take_succ_eq_append_getElem hq, upK_snoc]
theorem upK_bound (l : List Nat) (b : Nat) (h : ∀ x ∈ l, x ≤ b) : upK l ≤ b + 1 := by
  have : ∀ n, ∀ l : List Nat, l.length = n → (∀ x ∈ l, x ≤ b) → upK l ≤ b + 1 := by
    intro n
    induction n with
    | zero => intro l h _; rw [List.length_eq_zero_iff.1 h]; simp [upK]
    | succ n ih =>
      intro l h hx
      obtain ⟨l', y, rfl⟩ := (List.eq_nil_or_concat l).resolve_left (by rintro rfl; cases h)
      rw [List.concat_eq_append] at h hx ⊢
      rw [upK_snoc]
      have h1 := ih l' (by simp at h; exact h) (fun x hm => hx x (by simp [hm]))
      have h2 := hx y (by simp)
      omega
  exact this _ l rfl h
theorem highs_le (o : List (List Nat)) : ∀ x, (highs o).getD x 0 ≤ o.length := by
  have up : ∀ (l : List Nat) (b : Nat), (∀ x ∈ l, x ≤ b) → upK l ≤ b + 1 := by
    intro l b h
    have : ∀ n, ∀ l : List Nat, l.length = n → (∀ x ∈ l, x ≤ b) → upK l ≤ b + 1 := by
      intro n
      induction n with
      | zero => intro l h _; rw [List.length_eq_zero_iff.1 h]; simp [upK]
      | succ n ih =>
        intro l h hx
        obtain ⟨l', y, rfl⟩ := (List.eq_nil_or_concat l).resolve_left (by rintro rfl; cases h)
        rw [List.concat_eq_append] at h hx ⊢
        rw [upK_snoc]
        have h1 := ih l' (by simp at h; exact h) (fun x hm => hx x (by simp [hm]))
        have h2 := hx y (by simp)
        omega
    exact this _ l rfl h
  have : ∀ n, ∀ o : List (List Nat), o.length = n → ∀ x, (highs o).getD x 0 ≤ o.length := by
    intro n
    induction n with
    | zero => intro o h x; rw [List.length_eq_zero_iff.1 h]; simp [highs]
    | succ n ih =>
      intro o h x
      obtain ⟨o', ks, rfl⟩ := (List.eq_nil_or_concat o).resolve_left (by rintro rfl; cases h)
      rw [List.concat_eq_append] at h ⊢
      have hn : o'.length = n := by simp at h; exact h
      have hi := ih o' hn
      rw [highs_snoc, List.length_append]
      have hu := up (kidHighs (highs o') ks) o'.length (fun y hy => by
        obtain ⟨k, _, rfl⟩ := List.mem_map.1 hy
        exact hi k)
      by_cases e : x < (highs o').length
      · rw [List.getD_eq_getElem?_getD, List.getElem?_append_left e, ← List.getD_eq_getElem?_getD]
        exact Nat.le_trans (hi x) (Nat.le_add_right _ _)
      · rw [List.getD_eq_getElem?_getD, List.getElem?_append_right (by omega)]
        rcases Nat.eq_zero_or_pos (x - (highs o').length) with h0 | h0
        · rw [h0]; simpa using hu
        · rw [List.getElem?_eq_none (by simp; omega)]; simp
  exact this _ o rfl
end Go.Proofs.YtkngjbpbjjoneaaGreatDoor.Q
