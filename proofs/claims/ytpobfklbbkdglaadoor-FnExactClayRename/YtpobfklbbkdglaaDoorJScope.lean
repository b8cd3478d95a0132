import Derived.Test.YtpobfklbbkdglaaDoorJKid
import Derived.Test.YtpobfklbbkdglaaDoorJHigh
import Derived.Test.YtpobfklbbkdglaaDoorJTree
/-! What names are known, what is made and used, and what does not fit: plain mathematics. -/
namespace Go.Proofs.YtpobfklbbkdglaaDoor
/-- What each text is known as: a place, -2 (built), -1 (not at all). -/
abbrev Env := ByteArray → Int
def Env.ext (kn : Env) (s : ByteArray) (v : Int) : Env := fun t => if t = s then v else kn t
inductive Ev where
  | bind (k : Nat) (v : Int)
  | flt (k c : Nat)
def useE (nd : Nat → Nd) (kn : Env) (k : Nat) : List Ev := .bind k (kn (nd k).text) :: (if kn (nd k).text = -1 then [.flt k 9] else [])
def mkE (nd : Nat → Nd) (kn : Env) (k : Nat) : List Ev := if kn (nd k).text = (k : Int) then [] else [.flt k 8]
def inL (t : ByteArray) (ns : List ByteArray) : Bool := ns.any fun s => decide (s = t)
/-- Parameters, one behind the other: what happens, and what is known behind them. -/
def prm (nd : Nat → Nd) (o : List (List Nat)) (W : Env → Nat → List Ev) : List Nat → Env → List ByteArray → Bool → List Ev × Env
  | [], kn, _, _ => ([], kn)
  | p :: ps, kn, ns, d =>
    ((o.getD p []).flatMap (W kn) ++ ((if inL (nd p).text ns = true then [.flt p 8] else []) ++ ((if d = true ∧ o.getD p [] = [] then [.flt p 10] else []) ++
      (prm nd o W ps (kn.ext (nd p).text p) ((nd p).text :: ns) (d || !(o.getD p []).isEmpty)).1)),
      (prm nd o W ps (kn.ext (nd p).text p) ((nd p).text :: ns) (d || !(o.getD p []).isEmpty)).2)
def fnE (nd : Nat → Nd) (o : List (List Nat)) (W : Env → Nat → List Ev) (ks : List Nat) (kn : Env) : List Ev :=
  (prm nd o W ks.dropLast kn [] false).1 ++ W (prm nd o W ks.dropLast kn [] false).2 (ks.getLastD 0)
/-- One node, given what its kids do. -/
def nodeE (nd : Nat → Nd) (o : List (List Nat)) (W : Env → Nat → List Ev) (k : Nat) (kn : Env) : List Ev :=
  if (nd k).kind = 5 then useE nd kn k
  else if (nd k).kind = 14 ∨ (nd k).kind = 16 then W kn ((o.getD k []).getD 0 0) ++ ((o.getD k []).drop 1).flatMap (W (kn.ext (nd k).text k))
  else if (nd k).kind = 15 ∨ (nd k).kind = 20 then fnE nd o W (o.getD k []) kn
  else if (nd k).kind = 23 then []
  else (o.getD k []).flatMap (W kn)
def wk (nd : Nat → Nd) (o : List (List Nat)) (k : Nat) (kn : Env) : List Ev :=
  nodeE nd o (fun kn j => if _h : j < k then wk nd o j kn else []) k kn
termination_by k
/-- The kids of each node lie ahead of it. -/
def Down (o : List (List Nat)) : Prop := ∀ k, ∀ j ∈ o.getD k [], j < k
theorem flatMap_congr' {α β : Type} {l : List α} {f g : α → List β} (h : ∀ x ∈ l, f x = g x) : l.flatMap f = l.flatMap g := by
  induction l with
  | nil => rfl
  | cons a l ih => rw [List.flatMap_cons, List.flatMap_cons, h a (by simp), ih fun x hx => h x (by simp [hx])]
theorem prm_congr {nd : Nat → Nd} {o : List (List Nat)} {V W : Env → Nat → List Ev} (ps : List Nat) (h : ∀ p ∈ ps, ∀ j ∈ o.getD p [], ∀ kn, V kn j = W kn j) (kn : Env) (ns : List ByteArray) (d : Bool) : prm nd o V ps kn ns d = prm nd o W ps kn ns d := by
  induction ps generalizing kn ns d with
  | nil => rfl
  | cons p ps ih =>
    simp only [prm]
    rw [ih (fun q hq => h q (by simp [hq])), flatMap_congr' (g := W kn) fun j hj => h p (by simp) j hj kn]
theorem dropLast_sub {l : List Nat} {x : Nat} (h : x ∈ l.dropLast) : x ∈ l := List.dropLast_subset _ h
theorem getLastD_mem {l : List Nat} (h : l ≠ []) : l.getLastD 0 ∈ l := by
  cases l with
  | nil => exact absurd rfl h
  | cons a l => simp [List.getLastD]
theorem nodeE_congr {nd : Nat → Nd} {o : List (List Nat)} {V W : Env → Nat → List Ev} {k : Nat} (hd : Down o) (h : ∀ j, j < k → ∀ kn, V kn j = W kn j) (h1 : (nd k).kind = 14 ∨ (nd k).kind = 16 ∨ (nd k).kind = 15 ∨ (nd k).kind = 20 → o.getD k [] ≠ []) (kn : Env) : nodeE nd o V k kn = nodeE nd o W k kn := by
  unfold nodeE
  split
  · rfl
  split
  · rename_i hk
    have hne := h1 (by omega)
    obtain ⟨a, t, e⟩ := List.exists_cons_of_ne_nil hne
    rw [h _ (hd k _ (by rw [e]; simp)), flatMap_congr' fun j hj => h j (hd k j (List.mem_of_mem_drop hj)) _]
  split
  · rename_i hk
    have hne := h1 (by omega)
    unfold fnE
    rw [prm_congr (V := V) (W := W) _ fun p hp j hj kn => h j (Nat.lt_trans (hd p j hj) (hd k p (dropLast_sub hp))) kn]
    rw [h _ (hd k _ (getLastD_mem hne))]
  split
  · rfl
  · exact flatMap_congr' fun j hj => h j (hd k j hj) kn
/-- Kinds that have a first kid have one. -/
def Kidded (nd : Nat → Nd) (o : List (List Nat)) (k : Nat) : Prop := (nd k).kind = 14 ∨ (nd k).kind = 16 ∨ (nd k).kind = 15 ∨ (nd k).kind = 20 → o.getD k [] ≠ []
theorem wk_eq {nd : Nat → Nd} {o : List (List Nat)} {k : Nat} (hd : Down o) (hk : Kidded nd o k) (kn : Env) : wk nd o k kn = nodeE nd o (fun kn j => wk nd o j kn) k kn := by
  rw [wk]
  exact nodeE_congr hd (fun j hj kn => by simp [hj]) hk kn
/-- The faults among what happens. -/
def fls : List Ev → List (Nat × Nat)
  | [] => []
  | .bind _ _ :: r => fls r
  | .flt k c :: r => (k, c) :: fls r
theorem fls_append (a b : List Ev) : fls (a ++ b) = fls a ++ fls b := by
  induction a with
  | nil => rfl
  | cons x a ih => cases x <;> simp [fls, ih]
theorem fls_flatMap {α : Type} (l : List α) (f : α → List Ev) : fls (l.flatMap f) = l.flatMap fun x => fls (f x) := by
  induction l with
  | nil => rfl
  | cons a l ih => rw [List.flatMap_cons, List.flatMap_cons, fls_append, ih]
/-- What is bound behind all that happens. -/
def apB (bn : Nat → Int) : List Ev → Nat → Int
  | [] => bn
  | .bind k v :: r => apB (fun j => if j = k then v else bn j) r
  | .flt _ _ :: r => apB bn r
theorem apB_append (bn : Nat → Int) (a b : List Ev) : apB bn (a ++ b) = apB (apB bn a) b := by
  induction a generalizing bn with
  | nil => rfl
  | cons x a ih => cases x <;> simp [apB, ih]
/-- Of two that know the same texts the faults are the same. -/
def Same (a b : Env) : Prop := ∀ t, a t = -1 ↔ b t = -1
theorem Same.ext {a b : Env} (h : Same a b) (s : ByteArray) (k : Nat) : Same (a.ext s k) (b.ext s k) := by
  intro t
  unfold Env.ext
  split
  · omega
  · exact h t
theorem fls_use {nd : Nat → Nd} {a b : Env} (h : Same a b) (k : Nat) : fls (useE nd a k) = fls (useE nd b k) := by
  unfold useE
  by_cases e : a (nd k).text = -1
  · rw [if_pos e, if_pos ((h _).1 e)]; rfl
  · rw [if_neg e, if_neg (fun e2 => e ((h _).2 e2))]; rfl
theorem prm_same {nd : Nat → Nd} {o : List (List Nat)} {W : Env → Nat → List Ev} (ps : List Nat) (h : ∀ p ∈ ps, ∀ j ∈ o.getD p [], ∀ a b, Same a b → fls (W a j) = fls (W b j)) (a b : Env) (hs : Same a b) (ns : List ByteArray) (d : Bool) :
    fls (prm nd o W ps a ns d).1 = fls (prm nd o W ps b ns d).1 ∧ Same (prm nd o W ps a ns d).2 (prm nd o W ps b ns d).2 := by
  induction ps generalizing a b ns d with
  | nil => exact ⟨rfl, hs⟩
  | cons p ps ih =>
    have i := ih (fun q hq => h q (by simp [hq])) (a.ext (nd p).text p) (b.ext (nd p).text p) (hs.ext _ _) ((nd p).text :: ns) (d || !(o.getD p []).isEmpty)
    simp only [prm, fls_append]
    rw [i.1, fls_flatMap, fls_flatMap, flatMap_congr' fun j hj => h p (by simp) j hj a b hs]
    exact ⟨rfl, i.2⟩
theorem fls_same {nd : Nat → Nd} {o : List (List Nat)} (hd : Down o) (N : Nat) (hk : ∀ k, k < N → Kidded nd o k) (k : Nat) : k < N → ∀ a b, Same a b → fls (wk nd o k a) = fls (wk nd o k b) := by
  induction k using Nat.strongRecOn with
  | ind k ih =>
    intro hN a b hs
    rw [wk_eq hd (hk k hN), wk_eq hd (hk k hN)]
    unfold nodeE
    split
    · exact fls_use hs k
    split
    · rename_i h0
      obtain ⟨x, t, e⟩ := List.exists_cons_of_ne_nil (hk k hN (by omega))
      rw [fls_append, fls_append, fls_flatMap, fls_flatMap, ih _ (hd k _ (by rw [e]; simp)) (by have := hd k x (by rw [e]; simp); rw [e]; simp; omega) a b hs, flatMap_congr' fun j hj => ih j (hd k j (List.mem_of_mem_drop hj)) (by have := hd k j (List.mem_of_mem_drop hj); omega) _ _ (hs.ext (nd k).text k)]
    split
    · rename_i h0 _
      have p := prm_same (nd := nd) (o := o) (W := fun kn j => wk nd o j kn) (o.getD k []).dropLast (fun p hp j hj a b hs => ih j (Nat.lt_trans (hd p j hj) (hd k p (dropLast_sub hp))) (by have := hd p j hj; have := hd k p (dropLast_sub hp); omega) a b hs) a b hs [] false
      unfold fnE
      rw [fls_append, fls_append, p.1, ih _ (hd k _ (getLastD_mem (hk k hN (by omega)))) (by have := hd k _ (getLastD_mem (hk k hN (by omega))); omega) _ _ p.2]
    split
    · rfl
    · rw [fls_flatMap, fls_flatMap]
      exact flatMap_congr' fun j hj => ih j (hd k j hj) (by have := hd k j hj; omega) a b hs
/-- The lowest place below a node. -/
def low (o : List (List Nat)) (k : Nat) : Nat :=
  match o.getD k [] with
  | [] => k
  | x :: _ => if _h : x < k then low o x else k
termination_by k
/-- Nodes whose ranges lie side by side from a up to b. -/
def Tile (o : List (List Nat)) : Nat → List Nat → Nat → Prop
  | a, [], b => a = b
  | a, x :: r, b => low o x = a ∧ a ≤ x ∧ Tile o (x + 1) r b
theorem Tile.le {o : List (List Nat)} {s : List Nat} {a b : Nat} (h : Tile o a s b) : a ≤ b := by
  induction s generalizing a with
  | nil => exact Nat.le_of_eq h
  | cons x r ih => have := ih h.2.2; have := h.2.1; omega
theorem Tile.split {o : List (List Nat)} {s t : List Nat} {a b : Nat} (h : Tile o a (s ++ t) b) : ∃ m, Tile o a s m ∧ Tile o m t b := by
  induction s generalizing a with
  | nil => exact ⟨a, rfl, h⟩
  | cons x r ih =>
    obtain ⟨m, h1, h2⟩ := ih h.2.2
    exact ⟨m, ⟨h.1, h.2.1, h1⟩, h2⟩
theorem Tile.snoc {o : List (List Nat)} {s : List Nat} {a m x : Nat} (h : Tile o a s m) (h1 : low o x = m) (h2 : m ≤ x) : Tile o a (s ++ [x]) (x + 1) := by
  induction s generalizing a with
  | nil =>
    have e : a = m := h
    exact ⟨by rw [h1, e], by omega, rfl⟩
  | cons y r ih => exact ⟨h.1, h.2.1, ih h.2.2⟩
theorem Tile.lt {o : List (List Nat)} {s : List Nat} {a b : Nat} (h : Tile o a s b) : ∀ x ∈ s, a ≤ x ∧ x < b := by
  induction s generalizing a with
  | nil => intro x hx; cases hx
  | cons y r ih =>
    intro x hx
    have := h.2.1
    have := h.2.2.le
    rcases List.mem_cons.1 hx with e | hx
    · subst e; omega
    · have := ih h.2.2 x hx; omega
theorem kidsF_at {nd : Nat → Nd} {N : Nat} {O : List (List Nat)} {S : List Nat} (h : kidsF nd N = some (O, S)) (j : Nat) (hj : j < N) : ∃ sp sk, kidsF nd j = some (O.take j, sp ++ sk) ∧ kidsF nd (j + 1) = some (O.take (j + 1), sp ++ [j]) ∧ O.getD j [] = sk := by
  obtain ⟨s', h1⟩ := kidsF_pre h (j + 1) hj
  obtain ⟨o', sp, sk, h2, h3, rfl, _⟩ := kidsF_step h1
  have l2 := (kidsF_len nd _ _ _ h2).1
  have lO := (kidsF_len nd _ _ _ h).1
  have e : O.take j = o' := by
    have : (O.take (j + 1)).take j = (o' ++ [sk]).take j := by rw [h3]
    rw [List.take_take, Nat.min_eq_left (by omega)] at this
    rw [this, ← l2]; simp
  refine ⟨sp, sk, by rw [e]; exact h2, h1, ?_⟩
  have : (O.take (j + 1))[j]? = (o' ++ [sk])[j]? := by rw [h3]
  rw [List.getElem?_take_of_lt (by omega), List.getElem?_append_right (by omega), l2] at this
  rw [List.getD_eq_getElem?_getD, this]; simp
theorem tile_all {nd : Nat → Nd} {N : Nat} {O : List (List Nat)} {S : List Nat} (h : kidsF nd N = some (O, S)) (j : Nat) (hj : j ≤ N) : ∃ s, kidsF nd j = some (O.take j, s) ∧ Tile O 0 s j ∧ ∀ k, k < j → Tile O (low O k) (O.getD k []) k := by
  induction j with
  | zero => exact ⟨[], rfl, rfl, fun k hk => absurd hk (Nat.not_lt_zero _)⟩
  | succ j ih =>
    obtain ⟨s, h1, h2, h3⟩ := ih (by omega)
    obtain ⟨sp, sk, h4, h5, h6⟩ := kidsF_at h j (by omega)
    rw [h1] at h4
    injection h4 with h4
    injection h4 with _ h4
    subst h4
    obtain ⟨m, t1, t2⟩ := h2.split
    have hl : low O j = m := by
      rw [low, h6]
      cases sk with
      | nil => exact t2.symm
      | cons x r =>
        have := t2.lt x (by simp)
        simp only [this.2, dite_true]
        exact t2.1
    refine ⟨_, h5, t1.snoc hl t2.le, fun k hk => ?_⟩
    by_cases e : k = j
    · subst e; rw [h6, hl]; exact t2
    · exact h3 k (by omega)
theorem down_of {nd : Nat → Nd} {N : Nat} {O : List (List Nat)} {S : List Nat} (h : kidsF nd N = some (O, S)) : Down O := by
  intro k j hj
  have hl := (kidsF_len nd _ _ _ h).1
  by_cases hk : k < N
  · obtain ⟨_, _, _, h3⟩ := tile_all h N (Nat.le_refl _)
    exact ((h3 k hk).lt j hj).2
  · rw [List.getD_eq_getElem?_getD, List.getElem?_eq_none (by omega)] at hj
    cases hj
/-! Faults come in the order of the nodes. -/
def FLt (x y : Nat × Nat) : Prop := x.1 < y.1 ∨ x.1 = y.1 ∧ x.2 < y.2
def Srt (a b : Nat) (l : List (Nat × Nat)) : Prop := l.Pairwise FLt ∧ ∀ x ∈ l, a ≤ x.1 ∧ x.1 < b ∧ 8 ≤ x.2
theorem Srt.nil (a b : Nat) : Srt a b [] := ⟨List.Pairwise.nil, fun x h => by cases h⟩
theorem Srt.append {a b c : Nat} {l r : List (Nat × Nat)} (h1 : Srt a b l) (h2 : Srt b c r) (hab : a ≤ b) (hbc : b ≤ c) : Srt a c (l ++ r) := by
  refine ⟨List.pairwise_append.2 ⟨h1.1, h2.1, fun x hx y hy => .inl ?_⟩, fun x hx => ?_⟩
  · have := h1.2 x hx; have := h2.2 y hy; omega
  · rcases List.mem_append.1 hx with hx | hx
    · have := h1.2 x hx; omega
    · have := h2.2 x hx; omega
theorem Srt.mono {a b c d : Nat} {l : List (Nat × Nat)} (h : Srt a b l) (h1 : c ≤ a) (h2 : b ≤ d) : Srt c d l := ⟨h.1, fun x hx => by have := h.2 x hx; omega⟩
theorem Srt.one (k c : Nat) (hc : 8 ≤ c) : Srt k (k + 1) [(k, c)] := ⟨by simp, fun x hx => by simp at hx; subst hx; exact ⟨Nat.le_refl _, Nat.lt_succ_self _, hc⟩⟩
theorem srt_tile {o : List (List Nat)} {f : Nat → List (Nat × Nat)} (s : List Nat) (a b : Nat) (h : Tile o a s b) (hf : ∀ x ∈ s, Srt (low o x) (x + 1) (f x)) : Srt a b (s.flatMap f) := by
  induction s generalizing a with
  | nil => exact Srt.nil _ _
  | cons x r ih =>
    rw [List.flatMap_cons]
    have := hf x (by simp)
    rw [h.1] at this
    exact this.append (ih (x + 1) h.2.2 fun y hy => hf y (by simp [hy])) (by have := h.2.1; omega) h.2.2.le
theorem srt_prm {nd : Nat → Nd} {o : List (List Nat)} {W : Env → Nat → List Ev} (ps : List Nat) (a b : Nat) (h : Tile o a ps b) (ht : ∀ p ∈ ps, Tile o (low o p) (o.getD p []) p) (hW : ∀ p ∈ ps, ∀ j ∈ o.getD p [], ∀ kn, Srt (low o j) (j + 1) (fls (W kn j))) (kn : Env) (ns : List ByteArray) (d : Bool) : Srt a b (fls (prm nd o W ps kn ns d).1) := by
  induction ps generalizing a kn ns d with
  | nil => exact Srt.nil _ _
  | cons p ps ih =>
    have i := ih (p + 1) h.2.2 (fun q hq => ht q (by simp [hq])) (fun q hq => hW q (by simp [hq])) (kn.ext (nd p).text p) ((nd p).text :: ns) (d || !(o.getD p []).isEmpty)
    have t := ht p (by simp)
    rw [h.1] at t
    have k1 : Srt a p (fls ((o.getD p []).flatMap (W kn))) := by
      rw [fls_flatMap]
      exact srt_tile _ _ _ t fun j hj => hW p (by simp) j hj kn
    have k2 : Srt p (p + 1) (fls (if inL (nd p).text ns = true then [.flt p 8] else []) ++ fls (if d = true ∧ o.getD p [] = [] then [.flt p 10] else [])) := by
      split <;> split <;> simp only [fls, List.nil_append, List.append_nil]
      · refine ⟨by simp [FLt], fun x hx => ?_⟩
        simp at hx
        rcases hx with rfl | rfl <;> simp
      · exact Srt.one _ _ (by decide)
      · exact Srt.one _ _ (by decide)
      · exact Srt.nil _ _
    have := h.2.1
    have := h.2.2.le
    simp only [prm, fls_append]
    rw [← List.append_assoc (fls (if inL (nd p).text ns = true then [.flt p 8] else []))]
    exact k1.append (k2.append i (by omega) (by omega)) (by omega) (by omega)
theorem last_split {l : List Nat} (h : l ≠ []) : l = l.dropLast ++ [l.getLastD 0] := by
  have := List.dropLast_concat_getLast h
  rw [List.getLastD_eq_getLast?, List.getLast?_eq_some_getLast h]
  exact this.symm
theorem srt_wk {nd : Nat → Nd} {o : List (List Nat)} (hd : Down o) (N : Nat) (hk : ∀ k, k < N → Kidded nd o k) (ht : ∀ k, k < N → Tile o (low o k) (o.getD k []) k) (k : Nat) : k < N → ∀ kn, Srt (low o k) (k + 1) (fls (wk nd o k kn)) ∧ (¬ (nd k).kind = 5 → Srt (low o k) k (fls (wk nd o k kn))) := by
  induction k using Nat.strongRecOn with
  | ind k ih =>
    intro hN kn
    have t := ht k hN
    have tl := t.le
    have go : ∀ j ∈ o.getD k [], ∀ kn, Srt (low o j) (j + 1) (fls (wk nd o j kn)) := fun j hj kn => (ih j (hd k j hj) (by have := hd k j hj; omega) kn).1
    rw [wk_eq hd (hk k hN)]
    by_cases h5 : (nd k).kind = 5
    · refine ⟨?_, fun h => absurd h5 h⟩
      unfold nodeE
      rw [if_pos h5]
      unfold useE
      split
      · exact (Srt.one k 9 (by decide)).mono tl (Nat.le_refl _)
      · exact Srt.nil _ _
    · suffices h : Srt (low o k) k (fls (nodeE nd o (fun kn j => wk nd o j kn) k kn)) from ⟨h.mono (Nat.le_refl _) (Nat.le_succ _), fun _ => h⟩
      unfold nodeE
      rw [if_neg h5]
      split
      · rename_i h0
        obtain ⟨x, r, e⟩ := List.exists_cons_of_ne_nil (hk k hN (by omega))
        rw [e] at t go ⊢
        rw [fls_append, fls_flatMap]
        have := go x (by simp) kn
        rw [t.1] at this
        exact this.append (srt_tile _ _ _ t.2.2 fun j hj => go j (by simp [show j ∈ r from hj]) _) (by have := t.2.1; omega) t.2.2.le
      split
      · rename_i h0 _
        have hne := hk k hN (by omega)
        have hm := getLastD_mem hne
        unfold fnE
        rw [last_split hne] at t
        obtain ⟨m, t1, t2⟩ := t.split
        have := go _ hm (prm nd o (fun kn j => wk nd o j kn) (o.getD k []).dropLast kn [] false).2
        rw [t2.1] at this
        rw [fls_append]
        have e : (o.getD k []).getLastD 0 + 1 = k := t2.2.2
        have := (srt_prm (nd := nd) (W := fun kn j => wk nd o j kn) _ _ _ t1 (fun p hp => ht p (by have := hd k p (dropLast_sub hp); omega)) (fun p hp j hj kn => (ih j (by have := hd k p (dropLast_sub hp); have := hd p j hj; omega) (by have := hd k p (dropLast_sub hp); have := hd p j hj; omega) kn).1) kn [] false).append this t1.le (by have := t2.2.1; omega)
        exact this.mono (Nat.le_refl _) (by omega)
      split
      · exact Srt.nil _ _
      · rw [fls_flatMap]
        exact srt_tile _ _ _ t fun j hj => go j hj kn
end Go.Proofs.YtpobfklbbkdglaaDoor
namespace Go.Proofs.YtpobfklbbkdglaaDoor
open Go.RowKit Go.Maps Go.WideMaps
set_option maxRecDepth 20000
/-- All that lay in w is as it was, but for the blocks of S. -/
structure Sv (S : Nat → Prop) (w w' : World) : Prop where
  os : w'.os = w.os
  tape : w'.tape = w.tape
  output : w'.output = w.output
  size : w.heap.size ≤ w'.heap.size
  block : ∀ k, k < w.heap.size → ¬ S k → w'.heap[k]? = w.heap[k]?
theorem Sv.refl (S : Nat → Prop) (w : World) : Sv S w w := ⟨rfl, rfl, rfl, Nat.le_refl _, fun _ _ _ => rfl⟩
theorem Sv.trans {S : Nat → Prop} {a b c : World} (h : Sv S a b) (k : Sv S b c) : Sv S a c :=
  ⟨k.os.trans h.os, k.tape.trans h.tape, k.output.trans h.output, Nat.le_trans h.size k.size, fun i hi hs => (k.block i (Nat.lt_of_lt_of_le hi h.size) hs).trans (h.block i hi hs)⟩
theorem Sv.of_below {S : Nat → Prop} {a b : World} (h : Below a.heap.size a b) : Sv S a b := ⟨h.os, h.tape, h.output, h.size, fun k hk _ => h.block k hk⟩
theorem Sv.below {S : Nat → Prop} {a b : World} (h : Sv S a b) {B : Nat} (hB : B ≤ a.heap.size) (hS : ∀ k, S k → B ≤ k) : Below B a b := ⟨h.os, h.tape, h.output, h.size, fun k hk => h.block k (by omega) fun hs => by have := hS k hs; omega⟩
theorem Sv.alloc {S : Nat → Prop} {a w : World} (h : Sv S a w) (o : Obj) : Sv S a (w.alloc o) := h.trans (Sv.of_below ((Below.refl _ _).alloc (Nat.le_refl _) o))
theorem Sv.drew {S : Nat → Prop} {a w : World} (h : Sv S a w) : Sv S a w.drew := ⟨h.os, h.tape, h.output, h.size, h.block⟩
theorem Sv.setCell {S : Nat → Prop} {a w : World} (h : Sv S a w) {p : Addr} (hp : S p.block ∨ a.heap.size ≤ p.block) (u : Value) : Sv S a (w.setCell p u) :=
  ⟨h.os, h.tape, h.output, by have := h.size; simpa [World.setCell] using this, fun k hk hs => (Below.heap_setCell _ _ _ _ (by rintro rfl; rcases hp with hp | hp; exact hs hp; omega)).trans (h.block k hk hs)⟩
theorem Sv.grown {S : Nat → Prop} {a w w' : World} {row : Option Nat} (h : Sv S a w) (hg : w.grownBy w' row) (hr : ∀ k, row = some k → S k ∨ a.heap.size ≤ k) : Sv S a w' :=
  ⟨hg.os.trans h.os, hg.tape.trans h.tape, hg.output.trans h.output, Nat.le_trans h.size hg.size, fun k hk hs => (hg.block k (Nat.lt_of_lt_of_le hk h.size) (fun e => by rcases hr k e.symm with h | h; exact hs h; omega)).trans (h.block k hk hs)⟩
theorem Sv.cell {S : Nat → Prop} {a w : World} (h : Sv S a w) {p : Addr} (hp : p.block < a.heap.size) (hs : ¬ S p.block) : w.cell? p = a.cell? p := World.cell?_of_block (w := a) (h.block p.block hp hs)
/-- What holds, and goes on to hold while only blocks of S are written. -/
def Stb (S : Nat → Prop) (w : World) (Q : World → Prop) : Prop := ∀ w', Sv S w w' → Q w'
theorem Stb.now {S : Nat → Prop} {w : World} {Q : World → Prop} (h : Stb S w Q) : Q w := h w (Sv.refl S w)
theorem Stb.go {S : Nat → Prop} {w w' : World} {Q : World → Prop} (h : Stb S w Q) (hs : Sv S w w') : Stb S w' Q := fun w'' h2 => h w'' (hs.trans h2)
/-- A map from texts to numbers. -/
def MapIs (W : World) (m n : Nat) (f : ByteArray → Option Int) : Prop := ∃ D : DataW Unit, W.ownsMap Tryd.prog 9 (plainElem Tryd.prog 3) m n D ∧
  ∀ t, (f t = none → Maps.has D (keyL t) = false) ∧ ∀ v, f t = some v → Maps.has D (keyL t) = true ∧ D.atKey (keyL t) (.lit (.int .i64 0)) = .lit (.int .i64 v)
theorem MapIs.lt {W : World} {m n : Nat} {f : ByteArray → Option Int} (h : MapIs W m n f) : m < W.heap.size := by
  obtain ⟨D, h, _⟩ := h
  exact h.lt
theorem MapIs.keep {W W' : World} {m n : Nat} {f : ByteArray → Option Int} (h : MapIs W m n f) (hk : W'.heap[m]? = W.heap[m]?) : MapIs W' m n f := by
  obtain ⟨D, ⟨es, clock, h1, h2⟩, h3⟩ := h
  exact ⟨D, ⟨es, clock, hk.trans h1, h2⟩, h3⟩
theorem MapIs.made (w : World) : MapIs (w.alloc (.map #[] 0)) w.heap.size 0 (fun _ => none) :=
  ⟨.map [], World.ownsMap_made _ _ _ _, fun t => ⟨fun _ => by simp [Maps.has_eq], fun v h => by cases h⟩⟩
theorem keyL_key (t : ByteArray) : WideAt.IsKeyLit (keyL t) := by simp [keyL, WideAt.IsKeyLit]
def setF (f : ByteArray → Option Int) (t : ByteArray) (v : Int) : ByteArray → Option Int := fun u => if u = t then some v else f u
theorem MapIs.put {W : World} {m n : Nat} {f : ByteArray → Option Int} (h : MapIs W m n f) (hn : n < maxLen) (t : ByteArray) (ht : t.size ≤ maxLen) (v : Int) (hv : (Lit.int .i64 v).wf = true) :
    ∃ w', (Instr.mapUpdate 92 (.map (some m)) (.string t) (.int .i64 v)).run Tryd.prog W = .ok () w' ∧ MapIs w' m (n + 1) (setF f t v) ∧ W.grownBy w' (some m) := by
  obtain ⟨D, hown, hf⟩ := h
  obtain ⟨w', hrun, hown', hg⟩ := hown.update (string_keyed Tryd.underlying9) Tryd.underlying92 hn (keyOf_string_mk Tryd.underlying9 ht) (plainElem_int Tryd.underlying3 hv)
  refine ⟨w', hrun, ⟨_, hown', fun u => ?_⟩, hg⟩
  have hm := (hown.tidy (string_keyed Tryd.underlying9)).isMap
  unfold setF
  by_cases e : u = t
  · subst e
    rw [if_pos rfl]
    refine ⟨fun h => (by cases h), fun v' h => ?_⟩
    cases h
    exact ⟨Maps.has_put_same hm (keyL_key u) _, Maps.atKey_put_same hm (keyL_key u) _ _⟩
  · rw [if_neg e]
    refine ⟨fun h => ?_, fun v' h => ⟨?_, ?_⟩⟩
    · exact (Maps.has_put_other (keyL_ne e) _).trans ((hf u).1 h)
    · exact (Maps.has_put_other (keyL_ne e) _).trans ((hf u).2 v' h).1
    · exact (Maps.atKey_put_other (keyL_ne e) _ _).trans ((hf u).2 v' h).2
theorem zero_int (w : World) : (zeroValue 3).run Tryd.prog w = .ok (.int .i64 0) w := rfl
theorem MapIs.get {W : World} {m n : Nat} {f : ByteArray → Option Int} (h : MapIs W m n f) (t : ByteArray) (ht : t.size ≤ maxLen) :
    (Instr.lookup 92 (.map (some m)) (.string t) true).run Tryd.prog W = .ok (.tuple #[.int .i64 ((f t).getD 0), .bool (f t).isSome]) W := by
  obtain ⟨D, hown, hf⟩ := h
  obtain ⟨v, ps, hrun, hv⟩ := hown.look_ok (string_keyed Tryd.underlying9) Tryd.underlying92 (zero_int W) (plainElem_int Tryd.underlying3 (by decide)) (keyOf_string_mk Tryd.underlying9 ht)
  obtain ⟨c, rfl, hc, _⟩ := plainElem_int_inv Tryd.underlying3 hv
  have hc1 : D.atKey (keyL t) (.lit (.int .i64 0)) = .lit (.int .i64 c) := congrArg Prod.fst hc
  rw [hrun]
  cases hft : f t with
  | none =>
    have h1 := (hf t).1 hft
    have h2 := Maps.atKey_of_not_has h1 (DataW.lit (.int .i64 0))
    rw [hc1] at h2
    injection h2 with h2
    injection h2 with _ h2
    have h3 : Maps.has D (Lit.string t.data.toList) = false := h1
    rw [h3, h2]
    rfl
  | some v =>
    obtain ⟨h1, h2⟩ := (hf t).2 v hft
    rw [hc1] at h2
    injection h2 with h2
    injection h2 with _ h2
    have h3 : Maps.has D (Lit.string t.data.toList) = true := h1
    rw [h3, h2]
    rfl
/-- A chain of scopes; r is above the block of the first. -/
inductive Scp (W : World) : Nat → Value → Env → Prop
  | nil (r : Nat) : Scp W r (.pointer none) (fun _ => -1)
  | cons {r b m n : Nat} {f : ByteArray → Option Int} {next : Value} {kn : Env} : b < r → W.cell? ⟨b, 0, none⟩ = some (.map (some m)) → W.cell? ⟨b, 1, none⟩ = some next → MapIs W m n f → Scp W b next kn → Scp W r (.pointer (some ⟨b, 0, none⟩)) (fun t => (f t).getD (kn t))
theorem Scp.mono {W : World} {r r' : Nat} {v : Value} {kn : Env} (h : Scp W r v kn) (hr : r ≤ r') : Scp W r' v kn := by
  cases h with
  | nil => exact .nil _
  | cons h1 h2 h3 h4 h5 => exact .cons (by omega) h2 h3 h4 h5
end Go.Proofs.YtpobfklbbkdglaaDoor
namespace Go.Proofs.YtpobfklbbkdglaaDoor
open Go.RowKit Go.Maps Go.WideMaps
set_option maxRecDepth 20000
def ptrOf : Value → Nat | .pointer (some a) => a.block + 1 | _ => 0
set_option maxHeartbeats 1000000 in
theorem maker_any (r : Nat) (v : Value) (kn : Env) (s : ByteArray) (w : World) (hs : s.size ≤ maxLen) (hk : Scp w r v kn) :
    Calls Tryd.prog 88 #[v, .string s] w fun e w' => e = .returned (.int .i64 (kn s)) ∧ w' = w := by
  have HK := hid hk
  clear hk
  go_enter Tryd.func88, Tryd.ntmps88
  go_wp2
  go_loopw [5] (fun u wr => ∃ (r' : Nat) (kn' : Env), Scp w r' u kn' ∧ kn' s = kn s ∧ wr = w) (fun u _ => ptrOf u)
  case atStart => exact ⟨r, kn, HK.out, rfl, rfl⟩
  case round =>
    obtain ⟨r', kn', hsc, he, rfl⟩ := hrel
    have HE := hid he
    clear he
    cases hsc with
    | nil =>
      go_wp2
      go_ret
      exact ⟨by rw [← HE.out]; rfl, rfl⟩
    | @cons _ b m n f next kn2 h1 h2 h3 h4 h5 =>
      have hget := h4.get s hs
      have HE : Hid ((f s).getD (kn2 s) = kn s) := HE
      have H5 := hid h5
      have H1 := hid h1
      clear h5 h4 h1
      cases hf : f s with
      | none =>
        rw [hf] at hget HE
        have HF := hid hf
        clear hf
        go_wp2
        go_roundw
        case rel => exact ⟨b, kn2, H5.out, HE.out, trivial⟩
        case measure =>
          have := H5.out
          cases this with
          | nil => simp [ptrOf]
          | cons q1 => simp [ptrOf]; omega
      | some u =>
        rw [hf] at hget HE
        have HF := hid hf
        clear hf
        go_wp2
        go_ret
        exact ⟨by rw [← HE.out]; rfl, rfl⟩
/-- The first scope of a chain. -/
structure Top (W : World) (b m n : Nat) (f : ByteArray → Option Int) (v : Value) : Prop where
  made : W.cell? ⟨b, 0, none⟩ = some (.map (some m))
  around : W.cell? ⟨b, 1, none⟩ = some v
  map : MapIs W m n f
  lt : b < W.heap.size
  ne : m ≠ b
theorem Top.go {S : Nat → Prop} {W W' : World} {b m n : Nat} {f : ByteArray → Option Int} {v : Value} (h : Top W b m n f v) (hs : Sv S W W') (hb : ¬ S b) (hm : ¬ S m) : Top W' b m n f v :=
  ⟨(hs.cell (p := ⟨b, 0, none⟩) h.lt hb).trans h.made, (hs.cell (p := ⟨b, 1, none⟩) h.lt hb).trans h.around, h.map.keep (hs.block m h.map.lt hm), Nat.lt_of_lt_of_le h.lt hs.size, h.ne⟩
/-- What is known at a scope, while only blocks of S are written. -/
def Kn (S : Nat → Prop) (w : World) (v : Value) (kn : Env) : Prop := Stb S w fun W => Scp W w.heap.size v kn
theorem Kn.go {S : Nat → Prop} {w w' : World} {v : Value} {kn : Env} (h : Kn S w v kn) (hs : Sv S w w') : Kn S w' v kn := fun w'' h2 => (h w'' (hs.trans h2)).mono hs.size
theorem Kn.top {S : Nat → Prop} {w0 w : World} {b m n : Nat} {f : ByteArray → Option Int} {v : Value} {kn : Env} (h : Kn S w0 v kn) (hs : Sv S w0 w) (ht : Top w b m n f v) (hb : ¬ S b) (hm : ¬ S m) (h0 : w0.heap.size ≤ b) : Kn S w (.pointer (some ⟨b, 0, none⟩)) (fun t => (f t).getD (kn t)) := by
  intro w' h2
  have t := ht.go h2 hb hm
  exact .cons ht.lt t.made t.around t.map ((h w' (hs.trans h2)).mono h0)
theorem top_put {S : Nat → Prop} {w0 W W' : World} {b m n : Nat} {f g : ByteArray → Option Int} {v : Value} (ht : Top W b m n f v) (hg : W.grownBy W' (some m)) (hm : MapIs W' m (n + 1) g) (hs : Sv S w0 W) (h0 : w0.heap.size ≤ m) : Top W' b m (n + 1) g v ∧ Sv S w0 W' :=
  ⟨⟨hg.cell ht.made (fun e => ht.ne (by injection e with e; exact e.symm)), hg.cell ht.around (fun e => ht.ne (by injection e with e; exact e.symm)), hm, Nat.lt_of_lt_of_le ht.lt hg.size, ht.ne⟩,
    hs.grown hg fun k e => by injection e with e; subst e; exact .inr h0⟩
theorem cell_push (w : World) (o o2 : Obj) (i : Nat) : ((w.alloc o).alloc o2).cell? ⟨w.heap.size + 1, i, none⟩ = (match o2 with | .cells cs _ _ => cs[i]? | _ => none) := by
  have : ((w.alloc o).alloc o2).heap[w.heap.size + 1]? = some o2 := by
    have := heap_alloc_new (w.alloc o) o2
    rwa [World.size_alloc] at this
  unfold World.cell?
  rw [this]
  cases o2 <;> rfl
theorem inside_any (a : Option Addr) (w : World) :
    Calls Tryd.prog 90 #[.pointer a] w fun e w' => ∃ b m, e = .returned (.pointer (some ⟨b, 0, none⟩)) ∧ Top w' b m 0 (fun _ => none) (.pointer a) ∧ w.heap.size ≤ b ∧ w.heap.size ≤ m ∧ Below w.heap.size w w' := by
  have hmm := @run_makeMap Tryd.prog
  go_enter Tryd.func90, Tryd.ntmps90
  go_wp2
  go_ret
  refine ⟨w.heap.size + 1, w.heap.size, rfl, ⟨?_, ?_, ?_, by simp, by omega⟩, by omega, Nat.le_refl _, ((Below.refl _ _).alloc (Nat.le_refl _) _).alloc (by simp) _⟩
  · rw [cell_push]; rfl
  · rw [cell_push]; rfl
  · exact (MapIs.made w).keep (Below.heap_alloc _ _ _ (by simp))
theorem wf_nat (k : Nat) (h : k ≤ 5000) : (Lit.int .i64 (k : Int)).wf = true := by
  have e : IntKind.i64.min = -9223372036854775808 := by decide
  simp [Lit.wf, e]
  omega
set_option maxHeartbeats 1000000 in
theorem with_any (S : Nat → Prop) (a : Option Addr) (kn : Env) (s : ByteArray) (k : Nat) (w : World) (hs : s.size ≤ maxLen) (hk5 : k ≤ 5000) (hS : ∀ j, S j → j < w.heap.size) (hk : Kn S w (.pointer a) kn) :
    Calls Tryd.prog 74 #[.pointer a, .string s, .int .i64 k] w fun e w' => ∃ b, e = .returned (.pointer (some ⟨b, 0, none⟩)) ∧ Kn S w' (.pointer (some ⟨b, 0, none⟩)) (kn.ext s k) ∧ Below w.heap.size w w' := by
  have HK := hid hk
  have HSS := hid hS
  clear hk hS
  go_enter Tryd.func74, Tryd.ntmps74
  go_wp2_with fail
  refine (inside_any a w).mono ?_
  rintro e w1 ⟨b, m, rfl, ht, hb, hm, hbw⟩
  have h0 := ht.made
  obtain ⟨w2, hrun, hmap, hg⟩ := ht.map.put (by unfold maxLen; omega) s hs k (wf_nat k hk5)
  have HT := hid (top_put ht hg hmap (Sv.of_below (S := S) hbw) hm)
  have HB := hid (hbw.grown hg hbw.size (fun q e => by injection e with e; omega))
  clear ht hmap hg hbw
  go_wp2
  go_ret
  refine ⟨b, rfl, ?_, HB.out⟩
  have := HK.out.top HT.out.2 HT.out.1 (fun h => by have := HSS.out b h; omega) (fun h => by have := HSS.out m h; omega) hb
  have e : (fun t => (setF (fun _ => none) s k t).getD (kn t)) = kn.ext s k := by
    funext t
    unfold setF Env.ext
    split <;> rfl
  rw [e] at this
  exact this
end Go.Proofs.YtpobfklbbkdglaaDoor
namespace Go.Proofs.YtpobfklbbkdglaaDoor
open Go.RowKit Go.Maps Go.WideMaps
set_option maxRecDepth 20000
/-- A binder at work: its blocks, its tree. -/
structure Bx where
  bb : Nat
  gb : Nat
  g : Nat
  N : Nat
  cap : Nat
  gk : Nat
  nd : Nat → Nd
  o : List (List Nat)
def Bx.S (x : Bx) (k : Nat) : Prop := k = x.bb ∨ k = x.gb
def BnAt (W : World) (gb N : Nat) (bn : Nat → Int) : Prop := ∃ cur, W.heap[gb]? = some (.cells cur 3 (0, 0)) ∧ cur.size = N ∧ ∀ i, i < N → cur[i]? = some (.int .i64 (bn i))
def Bx.row (x : Bx) (c a : Int) : Array Value := #[.slice (some ⟨x.g, 0, none⟩) x.N x.cap, .slice (some ⟨x.gk, 0, none⟩) x.N x.N, .slice (some ⟨x.gb, 0, none⟩) x.N x.N, .int .i64 c, .int .i64 a]
def Bx.At (x : Bx) (W : World) (bn : Nat → Int) (c a : Int) : Prop := W.heap[x.bb]? = some (.cells (x.row c a) 84 (0, 0)) ∧ BnAt W x.gb x.N bn
theorem Bx.At.lt {x : Bx} {W : World} {bn : Nat → Int} {c a : Int} (h : x.At W bn c a) : ∀ j, x.S j → j < W.heap.size := by
  obtain ⟨h1, cur, h2, _⟩ := h
  rintro j (rfl | rfl)
  · exact (Array.getElem?_eq_some_iff.1 h1).1
  · exact (Array.getElem?_eq_some_iff.1 h2).1
theorem Bx.At.five {x : Bx} {W : World} {bn : Nat → Int} {c a : Int} (h : x.At W bn c a) :
    W.cell? ⟨x.bb, 0, none⟩ = some (.slice (some ⟨x.g, 0, none⟩) x.N x.cap) ∧ W.cell? ⟨x.bb, 1, none⟩ = some (.slice (some ⟨x.gk, 0, none⟩) x.N x.N) ∧ W.cell? ⟨x.bb, 2, none⟩ = some (.slice (some ⟨x.gb, 0, none⟩) x.N x.N) ∧ W.cell? ⟨x.bb, 3, none⟩ = some (.int .i64 c) ∧ W.cell? ⟨x.bb, 4, none⟩ = some (.int .i64 a) ∧
    W.frozen? ⟨x.bb, 3, none⟩ = false ∧ W.frozen? ⟨x.bb, 4, none⟩ = false := by
  have f : ∀ i, W.frozen? ⟨x.bb, i, none⟩ = false := fun i => by unfold World.frozen?; rw [h.1]; simp
  refine ⟨?_, ?_, ?_, ?_, ?_, f 3, f 4⟩ <;> (unfold World.cell?; rw [h.1]; rfl)
/-- The first fault counts. -/
def ft : Int × Int → List (Nat × Nat) → Int × Int
  | p, [] => p
  | p, (k, d) :: r => ft (if p.1 = 0 then ((d : Int), (k : Int)) else p) r
theorem ft_append (p : Int × Int) (l r : List (Nat × Nat)) : ft p (l ++ r) = ft (ft p l) r := by
  induction l generalizing p with
  | nil => rfl
  | cons x l ih => exact ih _
/-- What is left behind by what happens. -/
def Bx.Ends (x : Bx) (w w' : World) (bn : Nat → Int) (p : Int × Int) (evs : List Ev) : Prop := Sv x.S w w' ∧ ∃ bn', x.At w' bn' (ft p (fls evs)).1 (ft p (fls evs)).2 ∧ (fls evs = [] → bn' = apB bn evs)
theorem Bx.Ends.nil {x : Bx} {w : World} {bn : Nat → Int} {p : Int × Int} (h : x.At w bn p.1 p.2) : x.Ends w w bn p [] := ⟨Sv.refl _ _, bn, h, fun _ => rfl⟩
theorem Bx.At.go {x : Bx} {W W' : World} {bn : Nat → Int} {c a : Int} (h : x.At W bn c a) (hb : Below W.heap.size W W') : x.At W' bn c a := by
  have hl := h.lt
  obtain ⟨h1, cur, h2, h3⟩ := h
  exact ⟨(hb.block _ (hl _ (.inl rfl))).trans h1, cur, (hb.block _ (hl _ (.inr rfl))).trans h2, h3⟩
set_option maxHeartbeats 1000000 in
theorem finds_any (x : Bx) (code at_ : Nat) (bn : Nat → Int) (p : Int × Int) (w : World) (h : x.At w bn p.1 p.2) (hne : x.bb ≠ x.gb) :
    Calls Tryd.prog 89 #[.pointer (some ⟨x.bb, 0, none⟩), .int .i64 code, .int .i64 at_] w fun e w' => e = .returned (.tuple #[]) ∧ x.Ends w w' bn p [.flt at_ code] := by
  obtain ⟨f0, f1, f2, f3, f4, f5, f6⟩ := h.five
  have H := hid h
  clear h
  by_cases hc : p.1 = 0
  · have HC := hid hc
    rw [hc] at f3
    clear hc
    go_enter Tryd.func89, Tryd.ntmps89
    go_wp2
    go_end0
    refine ⟨rfl, ?_, bn, ?_, fun h => by cases h⟩
    · exact ((Sv.refl x.S w).setCell (p := ⟨x.bb, 3, none⟩) (.inl (.inl rfl)) _).setCell (p := ⟨x.bb, 4, none⟩) (.inl (.inl rfl)) _
    · obtain ⟨h1, cur, h2, h3⟩ := H.out
      refine ⟨?_, cur, ?_, h3⟩
      · have := set_at (.int .i64 (at_ : Int)) (i := 4) (set_at (.int .i64 (code : Int)) (i := 3) h1)
        rw [this]
        simp [fls, ft, HC.out, Bx.row]
      · rw [Below.heap_setCell _ _ _ _ (fun e => hne e.symm), Below.heap_setCell _ _ _ _ (fun e => hne e.symm)]
        exact h2
  · have hq : (p.1 == 0) = false := by rw [beq_eq_false_iff_ne]; exact hc
    have HC := hid hc
    clear hc
    go_enter Tryd.func89, Tryd.ntmps89
    go_wp2
    go_end0
    refine ⟨rfl, Sv.refl _ _, bn, ?_, fun h => by cases h⟩
    have : ft p (fls [.flt at_ code]) = p := by simp only [fls, ft]; rw [if_neg HC.out]
    rw [this]
    exact H.out
end Go.Proofs.YtpobfklbbkdglaaDoor
namespace Go.Proofs.YtpobfklbbkdglaaDoor
open Go.RowKit Go.Maps Go.WideMaps
set_option maxRecDepth 20000
/-- The names that are built, as the program lists them. -/
def builts : List (List UInt8) := [[108, 101, 110], [116, 101, 120, 116], [105, 110, 116], [114, 97, 110, 103, 101], [115, 111, 114, 116, 101, 100], [117, 110, 105, 113, 117, 101], [106, 111, 105, 110], [115, 112, 108, 105, 116], [107, 101, 121, 115], [114, 101, 99, 111, 114, 100], [119, 105, 116, 104, 111, 117, 116], [98, 101, 103, 105, 110, 115], [99, 117, 116], [102, 105, 108, 101, 115], [102, 97, 105, 108]]
def builtS (i : Nat) : ByteArray := ⟨(builts.getD i []).toArray⟩
def builtArr : Array Value := (builts.map fun z => Value.string ⟨z.toArray⟩).toArray
/-- The program's table lies where it was laid. -/
def BEnv (w : World) : Prop := ∃ t fr, w.heap[0]? = some (.cells builtArr t fr)
theorem BEnv.below {B : Nat} {w w' : World} (h : BEnv w) (hb : Below B w w') (hB : 0 < B) : BEnv w' := by
  obtain ⟨t, fr, h⟩ := h
  exact ⟨t, fr, (hb.block 0 hB).trans h⟩
theorem BEnv.pos {w : World} (h : BEnv w) : 0 < w.heap.size := by
  obtain ⟨t, fr, h⟩ := h
  exact (Array.getElem?_eq_some_iff.1 h).1
def isBuilt (t : ByteArray) : Bool := decide (t.data.toList ∈ builts)
def builtEnv : Env := fun t => if isBuilt t = true then -2 else -1
theorem builtArr_get (k : Nat) (h : k < 15) : builtArr[k]? = some (.string (builtS k)) := by
  have hl : k < builts.length := h
  simp [builtArr, builtS, hl]
theorem index_builts (k : Nat) (h : k < 15) (W : World) : (Instr.index 110 (.agg builtArr) (.int .i64 k)).run Tryd.prog W = .ok (.string (builtS k)) W := by
  have hg := builtArr_get k h
  have hz := Tryd.sizeOf9 W
  simp [Instr.index, asIntOf, run_underlying Tryd.underlying110, h, hz, part, hg]
theorem builtS_size (k : Nat) : (builtS k).size ≤ maxLen := by
  have : ∀ l ∈ builts, l.length ≤ 10 := by decide
  have h2 : (builtS k).size = (builts.getD k []).length := by simp [builtS, ByteArray.size]
  rw [h2, List.getD_eq_getElem?_getD]
  unfold maxLen
  cases h : builts[k]? with
  | none => simp
  | some l => have := this l (List.mem_of_getElem? h); simp; omega
theorem mem_builts (t : ByteArray) : isBuilt t = true ↔ ∃ i, i < 15 ∧ builtS i = t := by
  unfold isBuilt
  rw [decide_eq_true_iff]
  constructor
  · intro h
    obtain ⟨i, hl, e⟩ := List.getElem_of_mem h
    exact ⟨i, hl, by simp [builtS, hl, e]⟩
  · rintro ⟨i, h, rfl⟩
    have hl : i < builts.length := h
    simp [builtS, hl]
/-- What the first k of them give. -/
def BF (k : Nat) (f : ByteArray → Option Int) : Prop := ∀ t, f t = if ∃ i, i < k ∧ builtS i = t then some (-2) else none
theorem BF_succ {k : Nat} {f : ByteArray → Option Int} (h : BF k f) : BF (k + 1) (setF f (builtS k) (-2)) := by
  intro t
  unfold setF
  by_cases e : t = builtS k
  · rw [if_pos e, if_pos ⟨k, by omega, e.symm⟩]
  · rw [if_neg e, h t]
    by_cases e2 : ∃ i, i < k ∧ builtS i = t
    · obtain ⟨i, h1, h2⟩ := e2
      rw [if_pos ⟨i, h1, h2⟩, if_pos ⟨i, by omega, h2⟩]
    · rw [if_neg e2, if_neg]
      rintro ⟨i, h1, h2⟩
      rcases Nat.lt_or_eq_of_le (Nat.lt_succ_iff.1 h1) with h | h
      · exact e2 ⟨i, h, h2⟩
      · subst h; exact e h2.symm
set_option maxHeartbeats 1000000 in
theorem builtScope_any (S : Nat → Prop) (w : World) (hS : ∀ j, S j → j < w.heap.size) (hE : BEnv w) :
    Calls Tryd.prog 52 #[] w fun e w' => ∃ b, e = .returned (.pointer (some ⟨b, 0, none⟩)) ∧ Kn S w' (.pointer (some ⟨b, 0, none⟩)) builtEnv ∧ Below w.heap.size w w' := by
  have HSS := hid hS
  have hpos := hE.pos
  have HE := hid hE
  have hmm := @run_makeMap Tryd.prog
  clear hS hE
  have HB2 : Hid (Below w.heap.size w ((w.alloc (.map #[] 0)).alloc (.cells #[.map (some w.heap.size), .pointer none] 109))) := ((Below.refl _ _).alloc (Nat.le_refl _) _).alloc (by simp) _
  have HT0 : Hid (Top ((w.alloc (.map #[] 0)).alloc (.cells #[.map (some w.heap.size), .pointer none] 109)) (w.heap.size + 1) w.heap.size 0 (fun _ => none) (.pointer none)) := by
    refine ⟨?_, ?_, ?_, by simp, by omega⟩
    · rw [cell_push]; rfl
    · rw [cell_push]; rfl
    · exact (MapIs.made w).keep (Below.heap_alloc _ _ _ (by simp))
  obtain ⟨t, fr, hg⟩ := HE.out.below HB2.out hpos
  have HG := hid hg
  clear hg
  go_enter Tryd.func52, Tryd.ntmps52
  go_wp2_with (refine wpList_load_row rfl 110 (.global 0) rfl 0 rfl t builtArr fr (.array 15 9) HG.out Tryd.underlying110 rfl (by kernel_rfl) ?_)
  go_loopw [8] (fun i wr => ∃ (k : Nat) (f : ByteArray → Option Int), k ≤ 15 ∧ i = .int .i64 k ∧ BF k f ∧ Top wr (w.heap.size + 1) w.heap.size k f (.pointer none) ∧ Below w.heap.size w wr) (fun i _ => 15 - (intOf i).toNat)
  case atStart => exact ⟨0, fun _ => none, Nat.zero_le _, rfl, fun t => by rw [if_neg (fun ⟨i, h, _⟩ => absurd h (Nat.not_lt_zero _))], HT0.out, HB2.out⟩
  case round =>
    obtain ⟨k, f, hk, rfl, hbf, htop, hbw⟩ := hrel
    have HBF := hid hbf
    have HTOP := hid htop
    have HBW := hid hbw
    clear hbf htop hbw
    by_cases hlt : k < 15
    · have hidx := index_builts k hlt
      have t0 := HTOP.out.made
      obtain ⟨w2, hrun, hmap, hgr⟩ := HTOP.out.map.put (by unfold maxLen; omega) (builtS k) (builtS_size k) (-2) (by decide)
      have HT2 := hid (top_put HTOP.out hgr hmap (Sv.of_below (S := S) HBW.out) (Nat.le_refl _))
      have HB2' := hid (HBW.out.grown hgr HBW.out.size (fun q e => by injection e with e; omega))
      clear hmap hgr
      go_wp2
      go_roundw
      case rel => exact ⟨k + 1, _, by omega, by go_num, BF_succ HBF.out, HT2.out.1, HB2'.out⟩
      case measure => simp [intOf]; omega
    · obtain rfl : k = 15 := by omega
      go_wp2
      go_ret
      refine ⟨w.heap.size + 1, rfl, ?_, HBW.out⟩
      have hk0 : Kn S w (.pointer none) (fun _ => -1) := fun W _ => .nil _
      have := hk0.top (Sv.of_below HBW.out) HTOP.out (fun h => by have := HSS.out _ h; omega) (fun h => by have := HSS.out _ h; omega) (by omega)
      have e : (fun t => (f t).getD (-1)) = builtEnv := by
        funext t
        rw [HBF.out t]
        unfold builtEnv
        by_cases h : ∃ i, i < 15 ∧ builtS i = t
        · rw [if_pos h, if_pos ((mem_builts t).2 h)]; rfl
        · rw [if_neg h, if_neg (fun h2 => h ((mem_builts t).1 h2))]; rfl
      rw [e] at this
      exact this
/-- A name is added unless it is there. -/
def addF (f : ByteArray → Option Int) (s : ByteArray) (v : Int) : ByteArray → Option Int := fun t => (f t).or (if t = s then some v else none)
theorem add_some {f : ByteArray → Option Int} {s : ByteArray} (h : (f s).isSome = true) (v : Int) : addF f s v = f := by
  funext t
  unfold addF
  by_cases e : t = s
  · subst e
    obtain ⟨u, hu⟩ := Option.isSome_iff_exists.1 h
    rw [hu]; rfl
  · rw [if_neg e]; simp
theorem add_none {f : ByteArray → Option Int} {s : ByteArray} (h : (f s).isSome = false) (v : Int) : addF f s v = setF f s v := by
  funext t
  unfold addF setF
  by_cases e : t = s
  · subst e
    have : f t = none := by simpa using h
    rw [this]; rfl
  · rw [if_neg e, if_neg e]; simp
theorem top_put1 {W W' : World} {b m n : Nat} {f g : ByteArray → Option Int} {v : Value} (ht : Top W b m n f v) (hg : W.grownBy W' (some m)) (hm : MapIs W' m (n + 1) g) : Top W' b m (n + 1) g v :=
  ⟨hg.cell ht.made (fun e => ht.ne (by injection e with e; exact e.symm)), hg.cell ht.around (fun e => ht.ne (by injection e with e; exact e.symm)), hm, Nat.lt_of_lt_of_le ht.lt hg.size, ht.ne⟩
theorem grown_refl (w : World) (m : Nat) : w.grownBy w (some m) := ⟨rfl, rfl, rfl, Nat.le_refl _, fun _ _ _ => rfl⟩
theorem Top.more {W : World} {b m n : Nat} {f : ByteArray → Option Int} {v : Value} (h : Top W b m n f v) : Top W b m (n + 1) f v := by
  obtain ⟨D, h1, h2⟩ := h.map
  exact ⟨h.made, h.around, ⟨D, h1.mono (Nat.le_succ _), h2⟩, h.lt, h.ne⟩
set_option maxHeartbeats 1000000 in
theorem add_any (b m n : Nat) (f : ByteArray → Option Int) (v : Value) (s : ByteArray) (k : Nat) (w : World) (hs : s.size ≤ maxLen) (hk : k ≤ 5000) (hn : n < maxLen) (ht : Top w b m n f v) :
    Calls Tryd.prog 91 #[.pointer (some ⟨b, 0, none⟩), .string s, .int .i64 k] w fun e w' => e = .returned (.tuple #[]) ∧ Top w' b m (n + 1) (addF f s k) v ∧ w.grownBy w' (some m) := by
  have t0 := ht.made
  have hget := ht.map.get s hs
  obtain ⟨w2, hrun, hmap, hgr⟩ := ht.map.put hn s hs k (wf_nat k hk)
  have HT2 := hid (top_put1 ht hgr hmap)
  have HG := hid hgr
  have HT := hid ht
  clear ht hmap hgr
  go_enter Tryd.func91, Tryd.ntmps91
  cases hf : (f s).isSome
  · rw [hf] at hget
    have e := add_none hf k
    clear hf
    go_wp2
    go_end0
    rw [e]
    exact ⟨rfl, HT2.out, HG.out⟩
  · rw [hf] at hget
    have e := add_some hf k
    clear hf
    go_wp2
    go_end0
    rw [e]
    exact ⟨rfl, HT.out.more, grown_refl _ _⟩
end Go.Proofs.YtpobfklbbkdglaaDoor
