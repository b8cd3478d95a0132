import Derived.Test.YtpobfklbbkdglaaDoorJVKidB
import Derived.Test.YtpobfklbbkdglaaDoorJVKidC
import Derived.Test.YtpobfklbbkdglaaDoorJVKidD
import Derived.Test.YtpobfklbbkdglaaDoorJVKidE
import Derived.Test.YtpobfklbbkdglaaDoorJVKidH
import Derived.Test.YtpobfklbbkdglaaDoorJVKidI
import Derived.Test.YtpobfklbbkdglaaDoorJPl
namespace Go.Proofs.YtpobfklbbkdglaaDoor
open Go.RowKit
theorem l2KidsOk_any (kind : Int) (b N cap g o m c : Nat) (nd : Nat → Nd) (ks : Nat → Nat) (w : World) (hm : m ≤ 1000000) (hcm : m ≤ c) (hb : b < w.heap.size) (hg : g < w.heap.size) (hn : NodesAt w b N nd) (hk : PlacesAt w g o m N ks) :
    Calls Tryd.prog 44 #[.agg #[.slice (some ⟨b, 0, none⟩) N cap], .int .i64 kind, .slice (some ⟨g, o, none⟩) m c] w fun e w' => Says e (KidsOk kind m (fun i => nd (ks i))) ∧ Below w.heap.size w w' := by
  by_cases h12 : kind = 12
  · subst h12; exact KO_12 b N cap g o m c nd ks w hm hcm hb hg hn hk
  · have h : KO kind := by
      by_cases a : kind = 1 ∨ kind = 6 ∨ kind = 16
      · exact KO_A kind a
      · by_cases b : kind = 2 ∨ kind = 3 ∨ kind = 4 ∨ kind = 5 ∨ kind = 7 ∨ kind = 8
        · exact KO_B kind b
        · by_cases c : kind = 10 ∨ kind = 11 ∨ kind = 13 ∨ kind = 14 ∨ kind = 17
          · exact KO_C kind c
          · by_cases d : kind = 18 ∨ kind = 19 ∨ kind = 21 ∨ kind = 22
            · exact KO_D kind d
            · by_cases e9 : kind = 9
              · subst e9; exact KO_9
              · by_cases e15 : kind = 15
                · subst e15; exact KO_15
                · by_cases e20 : kind = 20
                  · subst e20; exact KO_20
                  · by_cases e23 : kind = 23
                    · subst e23; exact KO_23
                    · by_cases e24 : kind = 24
                      · subst e24; exact KO_24
                      · exact KO_E kind (by omega)
    exact h b N cap g o m c nd ks w hm hb hg hn hk
end Go.Proofs.YtpobfklbbkdglaaDoor
namespace Go.Proofs.YtpobfklbbkdglaaDoor
open Go.RowKit
/-- A row of one-cell elements in block g: n of cap are in use and hold xs. -/
def RowAt (W : World) (e : TypeId) (g cap n : Nat) (xs : List Value) : Prop := xs.length = n ∧ n ≤ cap ∧ cap ≤ maxLen ∧ ∃ cur, W.heap[g]? = some (.cells cur e (0, 0)) ∧ cur.size = cap ∧ cur.toList.take n = xs
theorem RowAt.own {W : World} {B : Nat} {e : TypeId} {g cap n : Nat} {xs : List Value} (h : RowAt W e g cap n xs) (hB : B ≤ g) : W.ownsRow B e 1 (.slice (some ⟨g, 0, none⟩) n cap) n xs := by
  obtain ⟨h1, h2, h3, cur, h4, h5, h6⟩ := h
  exact ⟨by omega, .inr ⟨g, cap, cur, rfl, hB, h4, h2, h3, by omega, by rw [Nat.mul_one]; exact h6⟩⟩
theorem RowAt.of_own {W : World} {B : Nat} {e : TypeId} {v : Value} {n : Nat} {xs : List Value} (h : W.ownsRow B e 1 v n xs) (hv : ¬ v = .slice none 0 0) : ∃ g cap, v = .slice (some ⟨g, 0, none⟩) n cap ∧ B ≤ g ∧ RowAt W e g cap n xs := by
  obtain ⟨h1, ⟨h2, _⟩ | ⟨g, cap, cur, h2, h3, h4, h5, h6, h7, h8⟩⟩ := h
  · exact absurd h2 hv
  · exact ⟨g, cap, h2, h3, by omega, h5, h6, cur, h4, by omega, by rw [Nat.mul_one] at h8; exact h8⟩
theorem RowAt.lt {W : World} {e : TypeId} {g cap n : Nat} {xs : List Value} (h : RowAt W e g cap n xs) : g < W.heap.size := by
  obtain ⟨_, _, _, cur, h4, _⟩ := h
  exact (Array.getElem?_eq_some_iff.1 h4).1
theorem RowAt.keep {W W' : World} {e : TypeId} {g cap n : Nat} {xs : List Value} (h : RowAt W e g cap n xs) (hk : W'.heap[g]? = W.heap[g]?) : RowAt W' e g cap n xs := by
  obtain ⟨h1, h2, h3, cur, h4, h5⟩ := h
  exact ⟨h1, h2, h3, cur, hk.trans h4, h5⟩
theorem RowAt.alloc {W : World} {e : TypeId} {g cap n : Nat} {xs : List Value} (h : RowAt W e g cap n xs) (o : Obj) : RowAt (W.alloc o) e g cap n xs := h.keep (Below.heap_alloc W o g h.lt)
theorem RowAt.grown {W W' : World} {e : TypeId} {g cap n : Nat} {xs : List Value} {row : Option Nat} (h : RowAt W e g cap n xs) (hg : W.grownBy W' row) (hne : row ≠ some g) : RowAt W' e g cap n xs := h.keep (hg.block g h.lt (fun e => hne e.symm))
theorem RowAt.below {W W' : World} {e : TypeId} {g cap n B : Nat} {xs : List Value} (h : RowAt W e g cap n xs) (hb : Below B W W') (hB : g < B) : RowAt W' e g cap n xs := h.keep (hb.block g hB)
theorem RowAt.front {W : World} {e : TypeId} {g cap n : Nat} {xs ys : List Value} (h : RowAt W e g cap n (xs ++ ys)) : RowAt W e g cap xs.length xs := by
  obtain ⟨h1, h2, h3, cur, h4, h5, h6⟩ := h
  rw [List.length_append] at h1
  refine ⟨rfl, by omega, h3, cur, h4, h5, ?_⟩
  have : (cur.toList.take n).take xs.length = (xs ++ ys).take xs.length := by rw [h6]
  rw [List.take_take, Nat.min_eq_left (by omega)] at this
  rw [this]; simp
theorem RowAt.cell {W : World} {e : TypeId} {g cap n : Nat} {xs : List Value} (h : RowAt W e g cap n xs) (i : Nat) (hi : i < n) : W.cell? ⟨g, i, none⟩ = xs[i]? := by
  obtain ⟨h1, h2, h3, cur, h4, h5, h6⟩ := h
  have e1 : W.cell? ⟨g, i, none⟩ = cur[i]? := by unfold World.cell?; rw [h4]; rfl
  rw [e1, ← h6, List.getElem?_take_of_lt hi]; simp
def intRow (s : List Nat) : List Value := s.map fun (x : Nat) => Value.int .i64 (x : Int)
theorem intRow_length (s : List Nat) : (intRow s).length = s.length := by simp [intRow]
theorem intRow_append (s t : List Nat) : intRow (s ++ t) = intRow s ++ intRow t := by simp [intRow]
theorem intRow_one (s : List Nat) : ∀ u ∈ intRow s, u.oneCell' = true := by
  intro u hu
  obtain ⟨x, _, rfl⟩ := List.mem_map.1 hu
  rfl
/-- Rows: their blocks, capacities and numbers. -/
def gridRow (L : List (Nat × Nat × List Nat)) : List Value := L.map fun x => Value.slice (some ⟨x.1, 0, none⟩) x.2.2.length x.2.1
theorem gridRow_length (L : List (Nat × Nat × List Nat)) : (gridRow L).length = L.length := by simp [gridRow]
theorem info_int : (Tryd.prog.info? 3).map (fun i => (i.zero, i.size, i.bytes)) = some (some (.int .i64 0), 1, 8) := by kernel_rfl
theorem info_ints : (Tryd.prog.info? 36).map (fun i => (i.zero, i.size, i.bytes)) = some (some (.slice none 0 0), 1, 24) := by kernel_rfl
/-- The kids of each of the first j nodes, and what is open behind them. -/
def kidsF (nd : Nat → Nd) : Nat → Option (List (List Nat) × List Nat)
  | 0 => some ([], [])
  | j + 1 => match kidsF nd j with
    | none => none
    | some (o, s) => if 0 ≤ (nd j).kids ∧ (nd j).kids ≤ s.length then some (o ++ [s.drop (s.length - (nd j).kids.toNat)], s.take (s.length - (nd j).kids.toNat) ++ [j]) else none
theorem kidsF_len (nd : Nat → Nd) (j : Nat) (o : List (List Nat)) (s : List Nat) (h : kidsF nd j = some (o, s)) : o.length = j ∧ s.length ≤ j ∧ (∀ x ∈ s, x < j) := by
  induction j generalizing o s with
  | zero => simp [kidsF] at h; obtain ⟨rfl, rfl⟩ := h; simp
  | succ j ih =>
    simp only [kidsF] at h
    cases hk : kidsF nd j with
    | none => rw [hk] at h; cases h
    | some x =>
      obtain ⟨o', s'⟩ := x
      rw [hk] at h
      obtain ⟨i1, i2, i3⟩ := ih o' s' hk
      dsimp only at h
      split at h
      · cases h
        refine ⟨by simp [i1], by simp; omega, ?_⟩
        intro x hx
        rcases List.mem_append.1 hx with hx | hx
        · have := i3 x (List.mem_of_mem_take hx); omega
        · simp at hx; omega
      · cases h
theorem kidsF_bad {nd : Nat → Nd} {j : Nat} {o : List (List Nat)} {s : List Nat} (h : kidsF nd j = some (o, s)) (hb : ¬ (0 ≤ (nd j).kids ∧ (nd j).kids ≤ s.length)) (N : Nat) (hN : j < N) : kidsF nd N = none := by
  have h1 : kidsF nd (j + 1) = none := by simp only [kidsF]; rw [h]; simp only; rw [if_neg hb]
  induction N with
  | zero => omega
  | succ N ih =>
    by_cases e : j = N
    · subst e; exact h1
    · simp only [kidsF]; rw [ih (by omega)]
theorem kidsF_good {nd : Nat → Nd} {j k : Nat} {o : List (List Nat)} {sp sk : List Nat} (h : kidsF nd j = some (o, sp ++ sk)) (hk : (nd j).kids = k) (hl : sk.length = k) : kidsF nd (j + 1) = some (o ++ [sk], sp ++ [j]) := by
  have e : (sp ++ sk).length - ((k : Int)).toNat = sp.length := by simp; omega
  simp only [kidsF]; rw [h]; simp only
  rw [hk, if_pos ⟨by omega, by simp; omega⟩, e]
  simp
end Go.Proofs.YtpobfklbbkdglaaDoor
namespace Go.Proofs.YtpobfklbbkdglaaDoor
open Go.RowKit
set_option maxRecDepth 20000
/-- What the loop of l2Kids holds behind j nodes. -/
def KInv (nd : Nat → Nd) (B : Nat) (W0 W : World) (j : Nat) (L : List (Nat × Nat × List Nat)) (s : List Nat) (go co gs cs : Nat) : Prop :=
  kidsF nd j = some (L.map (·.2.2), s) ∧ RowAt W 36 go co L.length (gridRow L) ∧ RowAt W 3 gs cs s.length (intRow s) ∧ go ≠ gs ∧ B ≤ go ∧ B ≤ gs ∧
  (∀ x ∈ L, B ≤ x.1 ∧ x.1 ≠ go ∧ x.1 ≠ gs ∧ RowAt W 3 x.1 x.2.1 x.2.2.length (intRow x.2.2)) ∧ Below B W0 W
theorem KInv_step {nd : Nat → Nd} {B : Nat} {W0 W w1 w2 w3 : World} {j k : Nat} {L : List (Nat × Nat × List Nat)} {sp sk : List Nat} {go co gs cs : Nat} (h : KInv nd B W0 W j L (sp ++ sk) go co gs cs) (hB : B ≤ W.heap.size)
    (hk : (nd j).kids = k) (hl : sk.length = k)
    {v1 v2 v3 : Value} {c1 : Array Value} {c2 : Array Value} {t1 t2 t3 : TypeId}
    (o1 : w1.ownsRow B 3 1 v1 k (intRow sk)) (g1 : (W.alloc (.cells #[] t1)).grownBy w1 (some W.heap.size)) (n1 : ¬ v1 = .slice none 0 0) (b1 : v1.ownBlock = some W.heap.size ∨ v1.ownBlock = some (W.alloc (.cells #[] t1)).heap.size)
    (o2 : w2.ownsRow B 36 1 v2 (L.length + 1) (gridRow L ++ [v1])) (g2 : (w1.alloc (.cells c1 t2)).grownBy w2 (some go)) (n2 : ¬ v2 = .slice none 0 0) (b2 : v2.ownBlock = some go ∨ v2.ownBlock = some (w1.alloc (.cells c1 t2)).heap.size)
    (o3 : w3.ownsRow B 3 1 v3 (sp.length + 1) (intRow sp ++ [.int .i64 j])) (g3 : (w2.alloc (.cells c2 t3)).grownBy w3 (some gs)) (n3 : ¬ v3 = .slice none 0 0) (b3 : v3.ownBlock = some gs ∨ v3.ownBlock = some (w2.alloc (.cells c2 t3)).heap.size) :
    ∃ L' s' go' co' gs' cs', v2 = .slice (some ⟨go', 0, none⟩) L'.length co' ∧ v3 = .slice (some ⟨gs', 0, none⟩) s'.length cs' ∧ KInv nd B W0 w3 (j + 1) L' s' go' co' gs' cs' := by
  obtain ⟨h1, h2, h3, h4, h5, h6, h7, h8⟩ := h
  obtain ⟨r1, d1, rfl, rb1, rr1⟩ := RowAt.of_own o1 n1
  obtain ⟨r2, d2, rfl, rb2, rr2⟩ := RowAt.of_own o2 n2
  obtain ⟨r3, d3, rfl, rb3, rr3⟩ := RowAt.of_own o3 n3
  have z2 := h2.lt
  have z3 := h3.lt
  have s1 := g1.size
  have s2 := g2.size
  have s3 := g3.size
  simp only [World.size_alloc] at s1 s2 s3 b1 b2 b3
  simp only [Value.ownBlock, Option.some.injEq] at b1 b2 b3
  have hr1 : W.heap.size ≤ r1 := by omega
  have hr1' : r1 < w1.heap.size := rr1.lt
  have hr2 : r2 = go ∨ w1.heap.size < r2 := by omega
  have hr2' : r2 < w2.heap.size := rr2.lt
  have hr3 : r3 = gs ∨ w2.heap.size < r3 := by omega
  refine ⟨L ++ [(r1, d1, sk)], sp ++ [j], r2, d2, r3, d3, by simp, by simp, ?_, ?_, ?_, by omega, rb2, rb3, ?_, ?_⟩
  · rw [List.map_append]; exact kidsF_good h1 hk hl
  · have e : gridRow (L ++ [(r1, d1, sk)]) = gridRow L ++ [.slice (some ⟨r1, 0, none⟩) k d1] := by simp [gridRow, hl]
    rw [e, List.length_append]
    exact (rr2.alloc _).grown g3 (by intro e; injection e with e; omega)
  · have e : intRow (sp ++ [j]) = intRow sp ++ [.int .i64 j] := by simp [intRow]
    rw [e, List.length_append]
    exact rr3
  · intro x hx
    rcases List.mem_append.1 hx with hx | hx
    · obtain ⟨x1, x2, x3, x4⟩ := h7 x hx
      have xl := x4.lt
      refine ⟨x1, by omega, by omega, ?_⟩
      exact ((((x4.alloc _).grown g1 (by intro e; injection e with e; omega)).alloc _).grown g2 (by intro e; injection e with e; omega)).alloc _ |>.grown g3 (by intro e; injection e with e; omega)
    · simp only [List.mem_singleton] at hx
      subst hx
      refine ⟨rb1, by show r1 ≠ r2; omega, by show r1 ≠ r3; omega, ?_⟩
      have rr : RowAt w1 3 r1 d1 sk.length (intRow sk) := by rw [hl]; simpa using rr1
      exact ((rr.alloc _).grown g2 (by intro e; injection e with e; omega)).alloc _ |>.grown g3 (by intro e; injection e with e; omega)
  · have a1 := (h8.alloc hB (.cells #[] t1)).grown g1 (by simp; omega) (fun k e => by injection e with e; omega)
    have a2 := (a1.alloc (by omega) (.cells c1 t2)).grown g2 (by simp; omega) (fun k e => by injection e with e; omega)
    exact (a2.alloc (by omega) (.cells c2 t3)).grown g3 (by simp; omega) (fun k e => by injection e with e; omega)
end Go.Proofs.YtpobfklbbkdglaaDoor
/-! How high nodes lie, and what a valid tree is: plain mathematics. -/
namespace Go.Proofs.YtpobfklbbkdglaaDoor
def upK (l : List Nat) : Nat := l.foldl (fun h x => max h (x + 1)) 0
theorem upK_snoc (l : List Nat) (x : Nat) : upK (l ++ [x]) = max (upK l) (x + 1) := by simp [upK]
def kidHighs (hs ks : List Nat) : List Nat := ks.map fun k => hs.getD k 0
def highs (o : List (List Nat)) : List Nat := o.foldl (fun hs ks => hs ++ [upK (kidHighs hs ks)]) []
theorem highs_snoc (o : List (List Nat)) (ks : List Nat) : highs (o ++ [ks]) = highs o ++ [upK (kidHighs (highs o) ks)] := by simp [highs]
theorem highs_length (o : List (List Nat)) : (highs o).length = o.length := by
  have : ∀ n, ∀ o : List (List Nat), o.length = n → (highs o).length = o.length := by
    intro n
    induction n with
    | zero => intro o h; rw [List.length_eq_zero_iff.1 h]; rfl
    | succ n ih =>
      intro o h
      obtain ⟨o', ks, rfl⟩ := (List.eq_nil_or_concat o).resolve_left (by rintro rfl; cases h)
      rw [List.concat_eq_append] at h ⊢
      rw [highs_snoc, List.length_append, List.length_append, ih o' (by simp at h; exact h)]
      rfl
  exact this _ o rfl
theorem highs_take (o : List (List Nat)) (i : Nat) (hi : i < o.length) : highs (o.take (i + 1)) = highs (o.take i) ++ [upK (kidHighs (highs (o.take i)) (o.getD i []))] := by
  rw [List.take_succ_eq_append_getElem hi, highs_snoc, List.getD_eq_getElem?_getD, List.getElem?_eq_getElem hi]
  rfl
theorem highs_pre (o : List (List Nat)) (j : Nat) : ∀ i, i < j → j ≤ o.length → (highs (o.take j)).getD i 0 = (highs o).getD i 0 := by
  have : ∀ d, ∀ j, j + d = o.length → ∀ i, i < j → (highs (o.take j)).getD i 0 = (highs o).getD i 0 := by
    intro d
    induction d with
    | zero => intro j h i _; rw [List.take_of_length_le (by omega)]
    | succ d ih =>
      intro j h i hi
      rw [← ih (j + 1) (by omega) i (by omega), highs_take o j (by omega)]
      rw [List.getD_eq_getElem?_getD, List.getD_eq_getElem?_getD, List.getElem?_append_left (by rw [highs_length, List.length_take]; omega)]
  intro i hi hj
  exact this (o.length - j) j (by omega) i hi
theorem upK_le {l : List Nat} {x : Nat} (h : x ∈ l) : x + 1 ≤ upK l := by
  have : ∀ n, ∀ l : List Nat, l.length = n → x ∈ l → x + 1 ≤ upK l := by
    intro n
    induction n with
    | zero => intro l h hx; rw [List.length_eq_zero_iff.1 h] at hx; cases hx
    | succ n ih =>
      intro l h hx
      obtain ⟨l', y, rfl⟩ := (List.eq_nil_or_concat l).resolve_left (by rintro rfl; cases h)
      rw [List.concat_eq_append] at h hx ⊢
      rw [upK_snoc]
      rcases List.mem_append.1 hx with hx | hx
      · have := ih l' (by simp at h; exact h) hx
        omega
      · simp at hx; omega
  exact this _ l rfl h
/-- The i-th node fits to its kids. -/
def FitAt (nd : Nat → Nd) (o : List (List Nat)) (i : Nat) : Prop := PlainNd (nd i) ∧ KidsOk (nd i).kind (o.getD i []).length (fun k => nd ((o.getD i []).getD k 0))
def ValidT (nd : Nat → Nd) (N : Nat) : Prop := 1 ≤ N ∧ N ≤ 5000 ∧ (nd (N - 1)).kind = 24 ∧ ∃ o x, kidsF nd N = some (o, [x]) ∧ ∀ i, i < N → (highs o).getD i 0 ≤ 50 ∧ FitAt nd o i
theorem kidsF_step {nd : Nat → Nd} {j : Nat} {o : List (List Nat)} {s : List Nat} (h : kidsF nd (j + 1) = some (o, s)) : ∃ o' sp sk, kidsF nd j = some (o', sp ++ sk) ∧ o = o' ++ [sk] ∧ s = sp ++ [j] ∧ (nd j).kids = sk.length := by
  simp only [kidsF] at h
  cases hk : kidsF nd j with
  | none => rw [hk] at h; cases h
  | some x =>
    obtain ⟨o', s'⟩ := x
    rw [hk] at h
    dsimp only at h
    split at h
    · rename_i hc
      cases h
      refine ⟨o', _, _, by rw [List.take_append_drop], rfl, rfl, ?_⟩
      rw [List.length_drop]; omega
    · cases h
theorem kidsF_pre {nd : Nat → Nd} {N : Nat} {o : List (List Nat)} {s : List Nat} (h : kidsF nd N = some (o, s)) (j : Nat) (hj : j ≤ N) : ∃ s', kidsF nd j = some (o.take j, s') := by
  induction N generalizing o s with
  | zero => obtain rfl : j = 0 := by omega
            simp [kidsF] at h ⊢
  | succ N ih =>
    by_cases e : j = N + 1
    · subst e
      have := (kidsF_len nd _ _ _ h).1
      exact ⟨s, by rw [List.take_of_length_le (by omega)]; exact h⟩
    · obtain ⟨o', sp, sk, h1, rfl, rfl, _⟩ := kidsF_step h
      have := (kidsF_len nd _ _ _ h1).1
      rw [List.take_append_of_le_length (by omega)]
      exact ih h1 (by omega)
theorem kidsF_cover {nd : Nat → Nd} {j : Nat} {o : List (List Nat)} {s : List Nat} (h : kidsF nd j = some (o, s)) : ∀ i, i < j → ∃ y, y ∈ s ∧ (highs o).getD i 0 ≤ (highs o).getD y 0 := by
  induction j generalizing o s with
  | zero => intro i hi; omega
  | succ j ih =>
    intro i hi
    obtain ⟨o', sp, sk, h1, rfl, rfl, _⟩ := kidsF_step h
    have hl := kidsF_len nd _ _ _ h1
    have hh : (highs o').length = j := by rw [highs_length]; exact hl.1
    have old : ∀ y, y < j → (highs o' ++ [upK (kidHighs (highs o') sk)]).getD y 0 = (highs o').getD y 0 := fun y hy => by
      rw [List.getD_eq_getElem?_getD, List.getD_eq_getElem?_getD, List.getElem?_append_left (by omega)]
    have new : (highs o' ++ [upK (kidHighs (highs o') sk)]).getD j 0 = upK (kidHighs (highs o') sk) := by
      rw [List.getD_eq_getElem?_getD, List.getElem?_append_right (by omega), hh]; simp
    rw [highs_snoc]
    by_cases e : i = j
    · subst e; exact ⟨i, by simp, Nat.le_refl _⟩
    · obtain ⟨y, hy, hle⟩ := ih h1 i (by omega)
      have hyj := hl.2.2 y hy
      rcases List.mem_append.1 hy with hy | hy
      · exact ⟨y, by simp [hy], by rw [old i (by omega), old y hyj]; exact hle⟩
      · refine ⟨j, by simp, ?_⟩
        rw [old i (by omega), new]
        have := upK_le (l := kidHighs (highs o') sk) (x := (highs o').getD y 0) (List.mem_map.2 ⟨y, hy, rfl⟩)
        omega
theorem valid_end {nd : Nat → Nd} {N : Nat} {o : List (List Nat)} {s : List Nat} (hN : N ≤ 5000) (h : kidsF nd N = some (o, s)) (hf : ∀ i, i < N → FitAt nd o i) : ValidT nd N ↔ s.length = 1 ∧ (nd (s.getD 0 0)).kind = 24 ∧ (highs o).getD (s.getD 0 0) 0 ≤ 50 := by
  cases N with
  | zero =>
    simp [kidsF] at h
    obtain ⟨rfl, rfl⟩ := h
    constructor
    · rintro ⟨h, _⟩; omega
    · rintro ⟨h, _⟩; cases h
  | succ N =>
    obtain ⟨o', sp, sk, h1, ho, hs, _⟩ := kidsF_step h
    constructor
    · rintro ⟨_, _, h3, o2, x, h4, h5⟩
      rw [h] at h4
      cases h4
      have hx : x = N := by
        cases sp with
        | nil => simp at hs; exact hs
        | cons a t => cases t <;> simp at hs
      subst hx
      exact ⟨rfl, by simpa using h3, by simpa using (h5 x (by omega)).1⟩
    · rintro ⟨h3, h4, h5⟩
      obtain ⟨x, hx⟩ := List.length_eq_one_iff.1 h3
      subst hx
      have hx : x = N := by
        cases sp with
        | nil => simp at hs; exact hs
        | cons a t => cases t <;> simp at hs
      subst hx
      refine ⟨by omega, hN, by simpa using h4, o, x, h, fun i hi => ⟨?_, hf i hi⟩⟩
      obtain ⟨y, hy, hle⟩ := kidsF_cover h i hi
      simp at hy
      subst hy
      simp at h5
      simp at hle ⊢
      omega
theorem invalid_at {nd : Nat → Nd} {N j : Nat} {o : List (List Nat)} {sp sk : List Nat} (hj : j < N) (h : kidsF nd j = some (o, sp ++ sk)) (hk : (nd j).kids = sk.length) (hb : ¬ (PlainNd (nd j) ∧ KidsOk (nd j).kind sk.length (fun k => nd (sk.getD k 0)))) : ¬ ValidT nd N := by
  rintro ⟨_, _, _, O, x, h4, h5⟩
  obtain ⟨s', h6⟩ := kidsF_pre h4 (j + 1) (by omega)
  rw [kidsF_good h hk rfl] at h6
  injection h6 with h6
  injection h6 with h6 _
  have hl := kidsF_len nd _ _ _ h
  have hO := (kidsF_len nd _ _ _ h4).1
  have e : O.getD j [] = sk := by
    have : (O.take (j + 1))[j]? = (o ++ [sk])[j]? := by rw [h6]
    rw [List.getElem?_take_of_lt (by omega), List.getElem?_append_right (by omega), hl.1] at this
    rw [List.getD_eq_getElem?_getD, this]; simp
  have := (h5 j hj).2
  unfold FitAt at this
  rw [e] at this
  exact hb this
theorem FitAt_snoc {nd : Nat → Nd} {o : List (List Nat)} {sk : List Nat} (h : ∀ i, i < o.length → FitAt nd o i) (hn : PlainNd (nd o.length) ∧ KidsOk (nd o.length).kind sk.length (fun k => nd (sk.getD k 0))) : ∀ i, i < o.length + 1 → FitAt nd (o ++ [sk]) i := by
  intro i hi
  unfold FitAt
  by_cases e : i = o.length
  · subst e
    have : (o ++ [sk]).getD o.length [] = sk := by rw [List.getD_eq_getElem?_getD, List.getElem?_append_right (Nat.le_refl _)]; simp
    rw [this]; exact hn
  · have : (o ++ [sk]).getD i [] = o.getD i [] := by rw [List.getD_eq_getElem?_getD, List.getD_eq_getElem?_getD, List.getElem?_append_left (by omega)]
    rw [this]; exact h i (by omega)
end Go.Proofs.YtpobfklbbkdglaaDoor
namespace Go.Proofs.YtpobfklbbkdglaaDoor
open Go.RowKit
set_option maxRecDepth 20000
/-- What l2Kids hands back. -/
def KidsEnd (nd : Nat → Nd) (N : Nat) (w w' : World) (e : Ending) : Prop :=
  Below w.heap.size w w' ∧ ((∃ v, e = .returned (.tuple #[v, .bool false]) ∧ ∀ o x, ¬ kidsF nd N = some (o, [x])) ∨
    ∃ L x go co, e = .returned (.tuple #[.slice (some ⟨go, 0, none⟩) L.length co, .bool true]) ∧ kidsF nd N = some (L.map (·.2.2), [x]) ∧ RowAt w' 36 go co L.length (gridRow L) ∧ w.heap.size ≤ go ∧
      ∀ x ∈ L, w.heap.size ≤ x.1 ∧ RowAt w' 3 x.1 x.2.1 x.2.2.length (intRow x.2.2))
theorem kids_len {nd : Nat → Nd} {B : Nat} {W0 W : World} {j : Nat} {L : List (Nat × Nat × List Nat)} {s : List Nat} {go co gs cs : Nat} (h : KInv nd B W0 W j L s go co gs cs) : L.length = j ∧ s.length ≤ j := by
  have := kidsF_len nd j _ _ h.1
  rw [List.length_map] at this
  exact ⟨this.1, this.2.1⟩
theorem tail_cells {W : World} {g cap n p : Nat} {sp sk : List Nat} (h : RowAt W 3 g cap n (intRow (sp ++ sk))) (hp : sp.length = p) : ∀ j u, (intRow sk)[j]? = some u → W.cell? ((⟨g, p, none⟩ : Addr).add j) = some u := by
  intro j u hj
  have hjl : j < sk.length := by
    have := (List.getElem?_eq_some_iff.1 hj).1
    rwa [intRow_length] at this
  have hn : n = sp.length + sk.length := by rw [← h.1, intRow_length, List.length_append]
  have e : ((⟨g, p, none⟩ : Addr).add j) = ⟨g, p + j, none⟩ := by unfold Addr.add; simp
  rw [e, h.cell (p + j) (by omega), intRow_append, List.getElem?_append_right (by rw [intRow_length]; omega), intRow_length, hp, Nat.add_sub_cancel_left]
  exact hj
theorem own_one {w : World} {B e size k : Nat} {v : Value} {xs : List Value} (h : w.ownsRow B e size v k xs) : v.oneCell' = true := by
  obtain ⟨_, ⟨rfl, rfl⟩ | ⟨g, cap, cur, rfl, _⟩⟩ := h
  · rfl
  · rfl
theorem some_not_nil {a : Addr} {n c : Nat} {P : Prop} {v : Value} (h : v = .slice none 0 0 ↔ Value.slice (some a) n c = .slice none 0 0 ∧ P) : ¬ v = .slice none 0 0 := fun e => by have := (h.1 e).1; cases this
set_option maxHeartbeats 2000000 in
theorem l2Kids_any (b N cap : Nat) (nd : Nat → Nd) (w : World) (hN : N ≤ 5000) (hb : b < w.heap.size) (hn : NodesAt w b N nd) :
    Calls Tryd.prog 42 #[.agg #[.slice (some ⟨b, 0, none⟩) N cap]] w fun e w' => KidsEnd nd N w w' e := by
  have HN := hid hn
  clear hn
  obtain ⟨i0, hi, hz0, hz1, hz2⟩ := info_parts info_int
  have HHI := hid (And.intro hi (And.intro hz0 (And.intro hz1 hz2)))
  clear hi hz0 hz1 hz2
  obtain ⟨i1, hi, hz0, hz1, hz2⟩ := info_parts info_ints
  have HHS := hid (And.intro hi (And.intro hz0 (And.intro hz1 hz2)))
  clear hi hz0 hz1 hz2
  go_enter Tryd.func42, Tryd.ntmps42
  go_wp2
  go_loopw [4, 5, 6] (fun vo vs i wr => ∃ (j : Nat) (L : List (Nat × Nat × List Nat)) (s : List Nat) (go co gs cs : Nat), j ≤ N ∧ i = .int .i64 j ∧ vo = .slice (some ⟨go, 0, none⟩) L.length co ∧ vs = .slice (some ⟨gs, 0, none⟩) s.length cs ∧
      KInv nd (w.heap.size + 1) (w.alloc (.cells #[.slice (some ⟨b, 0, none⟩) N cap] 31)) wr j L s go co gs cs) (fun _ _ i _ => N - (intOf i).toNat)
  case atStart =>
    refine ⟨0, [], [], w.heap.size + 1, 0, w.heap.size + 2, 0, Nat.zero_le _, rfl, rfl, rfl, rfl, ?_, ?_, by omega, by omega, by omega, by simp, ?_⟩
    · refine ⟨rfl, Nat.le_refl _, by unfold maxLen; omega, #[], ?_, rfl, rfl⟩
      have e : ∀ (a b : Obj), ((w.alloc a).alloc b).heap[w.heap.size + 1]? = some b := fun a b => by
        have := heap_alloc_new (w.alloc a) b
        rwa [World.size_alloc] at this
      rw [Below.heap_alloc _ _ _ (by simp)]
      exact e _ _
    · refine ⟨rfl, Nat.le_refl _, by unfold maxLen; omega, #[], ?_, rfl, rfl⟩
      have e : ∀ (a b c : Obj), (((w.alloc a).alloc b).alloc c).heap[w.heap.size + 2]? = some c := fun a b c => by
        have := heap_alloc_new ((w.alloc a).alloc b) c
        rwa [World.size_alloc, World.size_alloc] at this
      exact e _ _ _
    · exact ((Below.refl _ _).alloc (by simp) _).alloc (by simp) _
  case round =>
    obtain ⟨j, L, s, go, co, gs, cs, hj, rfl, rfl, rfl, hinv⟩ := hrel
    have HI := hid hinv
    have hlen := kids_len hinv
    clear hinv
    obtain ⟨hLl, hsl⟩ := hlen
    have hLb : L.length ≤ 5000 := by omega
    clear hLl
    have t0 := tree_cell HI.out.2.2.2.2.2.2.2
    by_cases hlt : j < N
    · obtain ⟨_, _, _, _, a4⟩ := (HN.out.below (btree HI.out.2.2.2.2.2.2.2) hb) j hlt
      by_cases hok : 0 ≤ (nd j).kids ∧ (nd j).kids ≤ s.length
      · obtain ⟨k, hk⟩ := Int.eq_ofNat_of_zero_le hok.1
        have hks : k ≤ s.length := by omega
        clear hok
        obtain ⟨sp, sk, hs, hsk⟩ : ∃ sp sk, s = sp ++ sk ∧ sk.length = k := ⟨s.take (s.length - k), s.drop (s.length - k), (List.take_append_drop _ _).symm, by simp; omega⟩
        subst hs
        obtain ⟨p, hp⟩ : ∃ p, sp.length = p := ⟨_, rfl⟩
        have hpk : (sp ++ sk).length = p + k := by rw [List.length_append, hp, hsk]
        have HK := hid hk
        rw [hk] at a4
        rw [hpk] at hks hsl ⊢
        have hBz : w.heap.size + 1 ≤ wr.heap.size := by have := HI.out.2.2.2.2.2.2.2.size; simpa using this
        have hcs : p + k ≤ cs := by have := HI.out.2.2.1.2.1; omega
        have hgo := HI.out.2.1.lt
        have hgs := HI.out.2.2.1.lt
        have hgne := HI.out.2.2.2.1
        have OWN1 := hid (World.ownsRow_made (e := 3) (size := 1) wr #[] 0 hBz (by unfold maxLen; omega) rfl)
        have R2 := hid HI.out.2.1
        have R3 : Hid (RowAt wr 3 gs cs p (intRow sp)) := by
          have := HI.out.2.2.1
          rw [intRow_append] at this
          have := this.front
          rw [intRow_length, hp] at this
          exact this
        have TC := hid (tail_cells (HI.out.2.2.1.alloc (.cells #[] 3)) hp)
        have hskl : (intRow sk).length = k * 1 := by rw [intRow_length, hsk, Nat.mul_one]
        have HSK := hid hskl
        clear hskl
        by_cases hcp : cs = p
        · subst hcp
          obtain rfl : k = 0 := by omega
          obtain rfl : sk = [] := List.length_eq_zero_iff.1 hsk
          simp only [Nat.add_zero] at *
          go_wp2_with (first
            | (at_builtin; refine wpList_append_own_at _ rfl (.tmp 33) (.tmp 39) 36 rfl (w.heap.size + 1) 3 i0 (.int .i64 0) 1 8 Tryd.underlying36 HHI.out.1 HHI.out.2.1 HHI.out.2.2.1 HHI.out.2.2.2 rfl (by decide) _ _ _ rfl OWN1.out ⟨gs, 0, none⟩ 0 (0) (intRow []) rfl rfl (fun j u h => by cases h) (intRow_one []) (by unfold maxLen; omega) (by omega) (by simp; omega) ?_; intro v1 w1 o1 g1 nn1 b1; rw [Nat.zero_add, List.nil_append] at o1; have hnn1 := some_not_nil nn1; clear nn1; obtain ⟨r1, d1, rfl, rb1, rr1⟩ := RowAt.of_own o1 hnn1; have O1 := hid o1; have G1 := hid g1; have NN1 := hid hnn1; have B1 := hid b1; have hs1 := g1.size; clear o1 g1 hnn1 b1 rr1)
            | (at_builtin; refine wpList_append_own_at _ rfl (.tmp 32) (.tmp 41) 48 rfl (w.heap.size + 1) 36 i1 (.slice none 0 0) 1 24 Tryd.underlying48 HHS.out.1 HHS.out.2.1 HHS.out.2.2.1 HHS.out.2.2.2 rfl (by decide) (.slice (some ⟨go, 0, none⟩) L.length co) L.length (gridRow L) rfl (((((R2.out.alloc _).grown G1.out (fun e => by injection e with e; exact absurd e (Nat.ne_of_gt hgo))).alloc _).own HI.out.2.2.2.2.1)) ⟨w1.heap.size, 0, none⟩ 1 1 [.slice (some ⟨r1, 0, none⟩) 0 d1] rfl rfl (cell_one_new _ _ _) (by simp [Value.oneCell']) (by unfold maxLen; omega) (by omega) (by simp at hs1; simp; omega) ?_; intro v2 w2 o2 g2 nn2 b2; have hnn2 := some_not_nil nn2; have O2 := hid o2; have G2 := hid g2; have NN2 := hid hnn2; have B2 := hid b2; have hs2 := g2.size; clear o2 g2 nn2 hnn2 b2)
            | (at_builtin; refine wpList_append_own_at _ rfl (.tmp 48) (.tmp 50) 36 rfl (w.heap.size + 1) 3 i0 (.int .i64 0) 1 8 Tryd.underlying36 HHI.out.1 HHI.out.2.1 HHI.out.2.2.1 HHI.out.2.2.2 rfl (by decide) (.slice (some ⟨gs, 0, none⟩) cs cs) cs (intRow sp) rfl (((((((R3.out.alloc _).grown G1.out (fun e => by injection e with e; exact absurd e (Nat.ne_of_gt hgs))).alloc _).grown G2.out (fun e => by injection e with e; exact hgne e)).alloc _).own HI.out.2.2.2.2.2.1)) ⟨w2.heap.size, 0, none⟩ 1 1 [.int .i64 j] rfl rfl (cell_one_new _ _ _) (by simp [Value.oneCell']) (by unfold maxLen; omega) (by omega) (by simp at hs1 hs2; simp; omega) ?_; intro v3 w3 o3 g3 nn3 b3; have hnn3 := some_not_nil nn3; have O3 := hid o3; have G3 := hid g3; have NN3 := hid hnn3; have B3 := hid b3; clear o3 g3 nn3 hnn3 b3))
          have ST := hid (KInv_step HI.out hBz HK.out hsk O1.out G1.out NN1.out B1.out O2.out G2.out NN2.out B2.out (by rw [hp]; exact O3.out) G3.out NN3.out B3.out)
          clear O1 G1 NN1 B1 O2 G2 NN2 B2 O3 G3 NN3 B3
          go_wp2
          go_roundw
          case rel =>
            obtain ⟨L', s', go', co', gs', cs', e1, e2, hnew⟩ := ST.out
            exact ⟨j + 1, L', s', go', co', gs', cs', by omega, by go_num, e1, e2, hnew⟩
          case measure => simp [intOf]; omega
        · go_wp2_with (first
            | (at_builtin; refine wpList_append_own_at _ rfl (.tmp 33) (.tmp 39) 36 rfl (w.heap.size + 1) 3 i0 (.int .i64 0) 1 8 Tryd.underlying36 HHI.out.1 HHI.out.2.1 HHI.out.2.2.1 HHI.out.2.2.2 rfl (by decide) _ _ _ rfl OWN1.out ⟨gs, p, none⟩ k (cs - p) (intRow sk) rfl HSK.out TC.out (intRow_one sk) (by unfold maxLen; omega) (by omega) (by simp; omega) ?_; intro v1 w1 o1 g1 nn1 b1; rw [Nat.zero_add, List.nil_append] at o1; have hnn1 := some_not_nil nn1; clear nn1; obtain ⟨r1, d1, rfl, rb1, rr1⟩ := RowAt.of_own o1 hnn1; have O1 := hid o1; have G1 := hid g1; have NN1 := hid hnn1; have B1 := hid b1; have hs1 := g1.size; clear o1 g1 hnn1 b1 rr1)
            | (at_builtin; refine wpList_append_own_at _ rfl (.tmp 32) (.tmp 41) 48 rfl (w.heap.size + 1) 36 i1 (.slice none 0 0) 1 24 Tryd.underlying48 HHS.out.1 HHS.out.2.1 HHS.out.2.2.1 HHS.out.2.2.2 rfl (by decide) (.slice (some ⟨go, 0, none⟩) L.length co) L.length (gridRow L) rfl (((((R2.out.alloc _).grown G1.out (fun e => by injection e with e; exact absurd e (Nat.ne_of_gt hgo))).alloc _).own HI.out.2.2.2.2.1)) ⟨w1.heap.size, 0, none⟩ 1 1 [.slice (some ⟨r1, 0, none⟩) k d1] rfl rfl (cell_one_new _ _ _) (by simp [Value.oneCell']) (by unfold maxLen; omega) (by omega) (by simp at hs1; simp; omega) ?_; intro v2 w2 o2 g2 nn2 b2; have hnn2 := some_not_nil nn2; have O2 := hid o2; have G2 := hid g2; have NN2 := hid hnn2; have B2 := hid b2; have hs2 := g2.size; clear o2 g2 nn2 hnn2 b2)
            | (at_builtin; refine wpList_append_own_at _ rfl (.tmp 48) (.tmp 50) 36 rfl (w.heap.size + 1) 3 i0 (.int .i64 0) 1 8 Tryd.underlying36 HHI.out.1 HHI.out.2.1 HHI.out.2.2.1 HHI.out.2.2.2 rfl (by decide) (.slice (some ⟨gs, 0, none⟩) p cs) p (intRow sp) rfl (((((((R3.out.alloc _).grown G1.out (fun e => by injection e with e; exact absurd e (Nat.ne_of_gt hgs))).alloc _).grown G2.out (fun e => by injection e with e; exact hgne e)).alloc _).own HI.out.2.2.2.2.2.1)) ⟨w2.heap.size, 0, none⟩ 1 1 [.int .i64 j] rfl rfl (cell_one_new _ _ _) (by simp [Value.oneCell']) (by unfold maxLen; omega) (by omega) (by simp at hs1 hs2; simp; omega) ?_; intro v3 w3 o3 g3 nn3 b3; have hnn3 := some_not_nil nn3; have O3 := hid o3; have G3 := hid g3; have NN3 := hid hnn3; have B3 := hid b3; clear o3 g3 nn3 hnn3 b3))
          have ST := hid (KInv_step HI.out hBz HK.out hsk O1.out G1.out NN1.out B1.out O2.out G2.out NN2.out B2.out (by rw [hp]; exact O3.out) G3.out NN3.out B3.out)
          clear O1 G1 NN1 B1 O2 G2 NN2 B2 O3 G3 NN3 B3
          go_wp2
          go_roundw
          case rel =>
            obtain ⟨L', s', go', co', gs', cs', e1, e2, hnew⟩ := ST.out
            exact ⟨j + 1, L', s', go', co', gs', cs', by omega, by go_num, e1, e2, hnew⟩
          case measure => simp [intOf]; omega
      · have HBAD := hid (kidsF_bad HI.out.1 hok N hlt)
        by_cases hneg : (nd j).kids < 0
        · go_wp2
          refine bodyPost_ret (v := .tuple #[.slice (some ⟨go, 0, none⟩) L.length co, .bool false]) (by simp [results, Tryd.results42, go_sem]) rfl ⟨btree HI.out.2.2.2.2.2.2.2, .inl ⟨_, rfl, fun o x h => ?_⟩⟩
          rw [HBAD.out] at h; cases h
        · have hge : 0 ≤ (nd j).kids := by omega
          have hgt : (s.length : Int) < (nd j).kids := by omega
          go_wp2
          refine bodyPost_ret (v := .tuple #[.slice (some ⟨go, 0, none⟩) L.length co, .bool false]) (by simp [results, Tryd.results42, go_sem]) rfl ⟨btree HI.out.2.2.2.2.2.2.2, .inl ⟨_, rfl, fun o x h => ?_⟩⟩
          rw [HBAD.out] at h; cases h
    · obtain rfl : j = N := by omega
      by_cases h1 : s.length = 1
      · obtain ⟨x, rfl⟩ := List.length_eq_one_iff.1 h1
        go_wp2
        refine bodyPost_ret (v := .tuple #[.slice (some ⟨go, 0, none⟩) L.length co, .bool true]) (by simp [results, Tryd.results42, go_sem]) rfl ⟨btree HI.out.2.2.2.2.2.2.2, .inr ⟨L, x, go, co, rfl, HI.out.1, HI.out.2.1, by have := HI.out.2.2.2.2.1; omega, fun x hx => ?_⟩⟩
        obtain ⟨x1, _, _, x4⟩ := HI.out.2.2.2.2.2.2.1 x hx
        exact ⟨by omega, x4⟩
      · have h2 : ((s.length : Int) == 1) = false := by simp; omega
        go_wp2
        refine bodyPost_ret (v := .tuple #[.slice (some ⟨go, 0, none⟩) L.length co, .bool false]) (by simp [results, Tryd.results42, go_sem]) rfl ⟨btree HI.out.2.2.2.2.2.2.2, .inl ⟨_, rfl, fun o x h => ?_⟩⟩
        rw [HI.out.1] at h
        injection h with h
        injection h with _ h
        rw [h] at h1
        exact h1 rfl
end Go.Proofs.YtpobfklbbkdglaaDoor
