import Derived.Test.YtjbhadpdbcelcaaDoorQHigh
import Derived.Maps.AppendAt
import Derived.Deep.RegionLaw
namespace Go.Proofs.YtjbhadpdbcelcaaDoor.Q
open Go.RowKit Go.Shelf
set_option maxRecDepth 20000
def sdCells (k : Int) (h : Nat) : List Value := [.int .i64 k, .int .i64 h]
/-- The row of what is open. -/
def sdRow (nd : Nat → Nd) (hs s : List Nat) : List Value := s.flatMap fun x => sdCells (nd x).kind (hs.getD x 0)
theorem sdRow_length (nd : Nat → Nd) (hs s : List Nat) : (sdRow nd hs s).length = s.length * 2 := by
  induction s with
  | nil => rfl
  | cons x s ih => simp [sdRow, sdCells] at ih ⊢; omega
theorem sdRow_append (nd : Nat → Nd) (hs s t : List Nat) : sdRow nd hs (s ++ t) = sdRow nd hs s ++ sdRow nd hs t := by simp [sdRow]
theorem sdRow_grow (nd : Nat → Nd) (hs : List Nat) (h : Nat) (s : List Nat) (hl : ∀ x ∈ s, x < hs.length) : sdRow nd (hs ++ [h]) s = sdRow nd hs s := by
  induction s with
  | nil => rfl
  | cons x s ih =>
    have e : (hs ++ [h]).getD x 0 = hs.getD x 0 := by
      rw [List.getD_eq_getElem?_getD, List.getD_eq_getElem?_getD, List.getElem?_append_left (hl x (by simp))]
    have := ih (fun y hy => hl y (by simp [hy]))
    simp only [sdRow, List.flatMap_cons] at this ⊢
    rw [this, e]
theorem sdRow_snoc (nd : Nat → Nd) (hs : List Nat) (h j : Nat) (s : List Nat) (hl : ∀ x ∈ s, x < hs.length) (hj : hs.length = j) : sdRow nd (hs ++ [h]) (s ++ [j]) = sdRow nd hs s ++ sdCells (nd j).kind h := by
  rw [sdRow_append, sdRow_grow nd hs h s hl]
  congr 1
  have e : (hs ++ [h]).getD j 0 = h := by rw [List.getD_eq_getElem?_getD, List.getElem?_append_right (by omega), hj]; simp
  simp only [sdRow, List.flatMap_cons, List.flatMap_nil, List.append_nil]
  rw [e]
theorem sdRow_get (nd : Nat → Nd) (hs s : List Nat) (i : Nat) (hi : i < s.length) (t : Nat) (ht : t < 2) : (sdRow nd hs s)[i * 2 + t]? = (sdCells (nd (s.getD i 0)).kind (hs.getD (s.getD i 0) 0))[t]? := by
  induction s generalizing i with
  | nil => simp at hi
  | cons x s ih =>
    simp only [sdRow, List.flatMap_cons] at ih ⊢
    cases i with
    | zero => rw [List.getElem?_append_left (by simp [sdCells]; omega)]; simp
    | succ i =>
      rw [List.getElem?_append_right (by simp [sdCells]; omega)]
      have := ih i (by simpa using hi)
      rw [show (i + 1) * 2 + t - (sdCells (nd x).kind (hs.getD x 0)).length = i * 2 + t by simp [sdCells]; omega, this]
      simp
/-- The row lies in block g. -/
def SdAt (W : World) (g cap n : Nat) (xs : List Value) : Prop := xs.length = n * 2 ∧ n ≤ cap ∧ cap ≤ maxLen ∧ ∃ cur, W.heap[g]? = some (.cells cur 50 (0, 0)) ∧ cur.size = cap * 2 ∧ cur.toList.take (n * 2) = xs
theorem SdAt.own {W : World} {B g cap n : Nat} {xs : List Value} (h : SdAt W g cap n xs) (hB : B ≤ g) : W.ownsRow B 50 2 (.slice (some ⟨g, 0, none⟩) n cap) n xs := by
  obtain ⟨h1, h2, h3, cur, h4, h5, h6⟩ := h
  exact ⟨h1, .inr ⟨g, cap, cur, rfl, hB, h4, h2, h3, h5, h6⟩⟩
theorem SdAt.of_own {W : World} {B : Nat} {v : Value} {n : Nat} {xs : List Value} (h : W.ownsRow B 50 2 v n xs) : v = .slice none 0 0 ∧ n = 0 ∧ xs = [] ∨ ∃ g cap, v = .slice (some ⟨g, 0, none⟩) n cap ∧ B ≤ g ∧ SdAt W g cap n xs := by
  obtain ⟨h1, ⟨h2, h2b⟩ | ⟨g, cap, cur, h2, h3, h4, h5, h6, h7, h8⟩⟩ := h
  · exact .inl ⟨h2, h2b, List.length_eq_zero_iff.1 (by rw [h1, h2b])⟩
  · exact .inr ⟨g, cap, h2, h3, h1, h5, h6, cur, h4, h7, h8⟩
theorem own_nil (W : World) (B : Nat) : W.ownsRow B 50 2 (.slice none 0 0) 0 [] := ⟨rfl, .inl ⟨rfl, rfl⟩⟩
theorem SdAt.lt {W : World} {g cap n : Nat} {xs : List Value} (h : SdAt W g cap n xs) : g < W.heap.size := by
  obtain ⟨_, _, _, cur, h4, _⟩ := h
  exact (Array.getElem?_eq_some_iff.1 h4).1
theorem SdAt.below {W W' : World} {g cap n : Nat} {xs : List Value} (h : SdAt W g cap n xs) (hb : Below W.heap.size W W') : SdAt W' g cap n xs := by
  have hl := h.lt
  obtain ⟨h1, h2, h3, cur, h4, h5⟩ := h
  exact ⟨h1, h2, h3, cur, (hb.block g hl).trans h4, h5⟩
theorem SdAt.front {W : World} {g cap n p : Nat} {xs ys : List Value} (h : SdAt W g cap n (xs ++ ys)) (hp : xs.length = p * 2) : SdAt W g cap p xs := by
  obtain ⟨h1, h2, h3, cur, h4, h5, h6⟩ := h
  rw [List.length_append] at h1
  refine ⟨hp, by omega, h3, cur, h4, h5, ?_⟩
  have : (cur.toList.take (n * 2)).take (p * 2) = (xs ++ ys).take (p * 2) := by rw [h6]
  rw [List.take_take, Nat.min_eq_left (by omega)] at this
  rw [this, ← hp]; simp
theorem SdAt.cell {W : World} {g cap n : Nat} {xs : List Value} (h : SdAt W g cap n xs) (i : Nat) (hi : i < n * 2) : W.cell? ⟨g, i, none⟩ = xs[i]? := by
  obtain ⟨h1, h2, h3, cur, h4, h5, h6⟩ := h
  have e1 : W.cell? ⟨g, i, none⟩ = cur[i]? := by unfold World.cell?; rw [h4]; rfl
  rw [e1, ← h6, List.getElem?_take_of_lt hi]; simp
theorem SdAt.stand {W : World} {g cap : Nat} {nd : Nat → Nd} {hs sp sk : List Nat} {n p : Nat} (h : SdAt W g cap n (sdRow nd hs (sp ++ sk))) (hp : sp.length = p) : StandAt W g (p * 2) sk.length (fun i => (nd (sk.getD i 0)).kind) (fun i => hs.getD (sk.getD i 0) 0) := by
  intro i hi
  have hn : n * 2 = (sp.length + sk.length) * 2 := by rw [← h.1, sdRow_length, List.length_append]
  have e : (sp ++ sk).getD (p + i) 0 = sk.getD i 0 := by
    rw [List.getD_eq_getElem?_getD, List.getD_eq_getElem?_getD, List.getElem?_append_right (by omega), hp, Nat.add_sub_cancel_left]
  have f : ∀ t, t < 2 → W.cell? ⟨g, p * 2 + i * 2 + t, none⟩ = (sdCells (nd (sk.getD i 0)).kind (hs.getD (sk.getD i 0) 0))[t]? := fun t ht => by
    rw [h.cell _ (by omega), show p * 2 + i * 2 + t = (p + i) * 2 + t by omega, sdRow_get nd hs _ (p + i) (by rw [List.length_append]; omega) t ht, e]
  exact ⟨f 0 (by omega), f 1 (by omega)⟩
/-- 'append' to a row of the call's own, as one step of a region that draws its order. -/
theorem step_append_own_at {P : Program} {ops : Array Oper} {o : Oper} {a : Act} {w : World} {K : Act → World → Prop} {Q : Exit → Act → World → Prop} {E : Prop} (hg : o.guard = none) (s x : Operand) (t : TypeId)
    (hop : o.op = Op.call { callee := Callee.builtin Builtin.append, args := #[s, x], argTypes := #[t, t] })
    (base : Nat) (e : TypeId) (i : TypeInfo) (z : Value) (size bytes : Nat) (ht : P.underlying t = some (.slice e)) (hi : P.info? e = some i) (hz : i.zero = some z)
    (hsize : i.size = size) (hby : i.bytes = bytes) (hzs : z.cells.size = size) (hsz : 0 < size)
    (v : Value) (n : Nat) (xs : List Value) (hs : a.eval s = v) (hown : w.ownsRow base e size v n xs)
    (ad : Addr) (m c : Nat) (news : List Value) (hx : a.eval x = .slice (some ad) m c) (hl : news.length = m * size) (hnews : ∀ j u, news[j]? = some u → w.cell? (ad.add j) = some u) (h1 : ∀ u ∈ news, u.oneCell' = true)
    (h63 : n + m ≤ maxLen) (hbytes : (n + m) * bytes ≤ 140737488355328) (hbase : base ≤ w.heap.size)
    (h : ∀ v' w', w'.ownsRow base e size v' (n + m) (xs ++ news) → w.grownBy w' v.ownBlock → (v' = .slice none 0 0 ↔ v = .slice none 0 0 ∧ m = 0) → (v'.ownBlock = v.ownBlock ∨ v'.ownBlock = some w.heap.size) → K (a.put o.dst v') w') :
    if Region.wanted o (yielded ops a.tmps) = true then Oper.wp P o a w K Q else E := by
  have hw : Region.wanted o (yielded ops a.tmps) = true := by simp [Region.wanted, hg]
  rw [if_pos hw]
  obtain ⟨v', w', hr, h2, h3, h4, h5⟩ := run_append_own_at (P := P) w base t o.type e i z size bytes ht hi hz hsize hby hzs hsz v n xs hown ad m c news hl hnews h1 h63 hbytes hbase
  unfold Oper.wp
  simp [execOp, hop, resolve, invoke, builtin, hs, hx, hr, Result.andThen]
  exact h v' w' h2 h3 h4 h5
end Go.Proofs.YtjbhadpdbcelcaaDoor.Q
