import Derived.OwnWalk
import Derived.Maps.OwnSet
import Derived.Maps.Views
import Derived.StringKeys
import Derived.Test.YtbakebdfmdepnaaGreatDoorJ01
namespace Go.Proofs.YtbakebdfmdepnaaGreatDoor
open Go.RowKit
set_option maxRecDepth 20000
set_option maxHeartbeats 4000000 in
theorem l2Plain_B (k : Int) (hk : k = 7 ∨ k = 8 ∨ k = 9 ∨ k = 10 ∨ k = 11 ∨ k = 12) : Pl1 k := by
 intro op n kids t w ht
 unfold ndV
 have HT := hid ht
 clear ht
 rcases hk with rfl | rfl | rfl | rfl | rfl | rfl
 all_goals
  go_enter Tryz.func25, Tryz.ntmps25
  go_wp2_with (first
   | (go_at_call 23; refine (l1In_dec _ _ _ _).mono ?_; rintro e w' ⟨rfl, rfl⟩)
   | (go_at_call 45; refine (l2Package_any t _ HT.out).mono ?_; rintro e w' ⟨hs, rfl⟩; rcases hs.get with ⟨rfl, hp⟩ | ⟨rfl, hp⟩)
   | (go_at_call 46; refine (l1NameOk_any t _ HT.out).mono ?_; rintro e w1 ⟨hs, hb⟩; rcases hs.get with ⟨rfl, hp⟩ | ⟨rfl, hp⟩))
  all_goals go_ret
  all_goals refine ⟨⟨_, rfl, ?_⟩, ?_⟩
  all_goals first
   | exact (Below.refl w.heap.size w).alloc (Nat.le_refl _) _
   | exact Below.trans ((Below.refl w.heap.size w).alloc (Nat.le_refl _) _) (Below.mono hb (B' := w.heap.size) (by simp))
   | (simp [PlainNd, hasText, inR, *]; done)
   | ((try simp only [bne_iff_ne, bne_eq_false_iff_eq, ne_eq] at *); (try simp [PlainNd, hasText, inR, *]); done)
end Go.Proofs.YtbakebdfmdepnaaGreatDoor
namespace Go.Proofs.YtbakebdfmdepnaaGreatDoor
open Go.RowKit
def RowAt (W : World) (e : TypeId) (g cap n : Nat) (xs : List Value) : Prop := xs.length = n ∧ n ≤ cap ∧ cap ≤ maxLen ∧ ∃ cur, W.heap[g]? = some (.cells cur e (0, 0)) ∧ cur.size = cap ∧ cur.toList.take n = xs
theorem RowAt.own {W : World} {B : Nat} {e : TypeId} {g cap n : Nat} {xs : List Value} (h : RowAt W e g cap n xs) (hB : B ≤ g) : W.ownsRow B e 1 (.slice (some ⟨g, 0, none⟩) n cap) n xs := by
 obtain ⟨h1, h2, h3, cur, h4, h5, h6⟩ := h
 exact ⟨by omega, .inr ⟨g, cap, cur, rfl, hB, h4, h2, h3, by omega, by rw [Nat.mul_one]; exact h6⟩⟩
theorem RowAt.of_own {W : World} {B : Nat} {e : TypeId} {v : Value} {n : Nat} {xs : List Value} (h : W.ownsRow B e 1 v n xs) (hv : ¬ v = .slice none 0 0) : ∃ g cap, v = .slice (some ⟨g, 0, none⟩) n cap ∧ B ≤ g ∧ RowAt W e g cap n xs := by
 obtain ⟨h1, ⟨h2, _⟩ | ⟨g, cap, cur, h2, h3, h4, h5, h6, h7, h8⟩⟩ := h
 ·exact absurd h2 hv
 ·exact ⟨g, cap, h2, h3, by omega, h5, h6, cur, h4, by omega, by rw [Nat.mul_one] at h8; exact h8⟩
theorem RowAt.lt {W : World} {e : TypeId} {g cap n : Nat} {xs : List Value} (h : RowAt W e g cap n xs) : g < W.heap.size := by
 obtain ⟨_, _, _, cur, h4, _⟩ := h
 exact (Array.getElem?_eq_some_iff.1 h4).1
theorem RowAt.keep {W W' : World} {e : TypeId} {g cap n : Nat} {xs : List Value} (h : RowAt W e g cap n xs) (hk : W'.heap[g]? = W.heap[g]?) : RowAt W' e g cap n xs := by
 obtain ⟨h1, h2, h3, cur, h4, h5⟩ := h
 exact ⟨h1, h2, h3, cur, hk.trans h4, h5⟩
theorem RowAt.alloc {W : World} {e : TypeId} {g cap n : Nat} {xs : List Value} (h : RowAt W e g cap n xs) (o : Obj) : RowAt (W.alloc o) e g cap n xs := h.keep (Below.heap_alloc W o g h.lt)
theorem RowAt.grown {W W' : World} {e : TypeId} {g cap n : Nat} {xs : List Value} {row : Option Nat} (h : RowAt W e g cap n xs) (hg : W.grownBy W' row) (hne : row ≠ some g) : RowAt W' e g cap n xs := h.keep (hg.block g h.lt (fun e => hne e.symm))
theorem RowAt.below {W W' : World} {e : TypeId} {g cap n B : Nat} {xs : List Value} (h : RowAt W e g cap n xs) (hb : Below B W W') (hB : g < B) : RowAt W' e g cap n xs := h.keep (hb.block g hB)
theorem RowAt.front {W : World} {e : TypeId} {g cap n : Nat} {xs ys : List Value} (h : RowAt W e g cap n (xs ++ ys)) : RowAt W e g cap xs.length xs := by
 obtain ⟨h1, h2, h3, cur, h4, h5, h6⟩ := h
 rw [List.length_append] at h1
 refine ⟨rfl, by omega, h3, cur, h4, h5, ?_⟩
 have : (cur.toList.take n).take xs.length = (xs ++ ys).take xs.length := by rw [h6]
 rw [List.take_take, Nat.min_eq_left (by omega)] at this
 rw [this]; simp
theorem RowAt.cell {W : World} {e : TypeId} {g cap n : Nat} {xs : List Value} (h : RowAt W e g cap n xs) (i : Nat) (hi : i < n) : W.cell? ⟨g, i, none⟩ = xs[i]? := by
 obtain ⟨h1, h2, h3, cur, h4, h5, h6⟩ := h
 have e1 : W.cell? ⟨g, i, none⟩ = cur[i]? := by unfold World.cell?; rw [h4]; rfl
 rw [e1, ← h6, List.getElem?_take_of_lt hi]; simp
def intRow (s : List Nat) : List Value := s.map fun (x : Nat) => Value.int .i64 (x : Int)
theorem intRow_length (s : List Nat) : (intRow s).length = s.length := by simp [intRow]
theorem intRow_append (s t : List Nat) : intRow (s ++ t) = intRow s ++ intRow t := by simp [intRow]
theorem intRow_one (s : List Nat) : ∀ u ∈ intRow s, u.oneCell' = true := by
 intro u hu
 obtain ⟨x, _, rfl⟩ := List.mem_map.1 hu
 rfl
def gridRow (L : List (Nat × Nat × List Nat)) : List Value := L.map fun x => Value.slice (some ⟨x.1, 0, none⟩) x.2.2.length x.2.1
theorem info_int : (Tryz.prog.info? 3).map (fun i => (i.zero, i.size, i.bytes)) = some (some (.int .i64 0), 1, 8) := by kernel_rfl
theorem info_ints : (Tryz.prog.info? 30).map (fun i => (i.zero, i.size, i.bytes)) = some (some (.slice none 0 0), 1, 24) := by kernel_rfl
def kidsF (nd : Nat → Nd) : Nat → Option (List (List Nat) × List Nat)
 | 0 => some ([], [])
 | j + 1 => match kidsF nd j with
  | none => none
  | some (o, s) => if 0 ≤ (nd j).kids ∧ (nd j).kids ≤ s.length then some (o ++ [s.drop (s.length - (nd j).kids.toNat)], s.take (s.length - (nd j).kids.toNat) ++ [j]) else none
theorem kidsF_len (nd : Nat → Nd) (j : Nat) (o : List (List Nat)) (s : List Nat) (h : kidsF nd j = some (o, s)) : o.length = j ∧ s.length ≤ j ∧ (∀ x ∈ s, x < j) := by
 induction j generalizing o s with
 | zero => simp [kidsF] at h; obtain ⟨rfl, rfl⟩ := h; simp
 | succ j ih =>
  simp only [kidsF] at h
  cases hk : kidsF nd j with
  | none => rw [hk] at h; cases h
  | some x =>
   obtain ⟨o', s'⟩ := x
   rw [hk] at h
   obtain ⟨i1, i2, i3⟩ := ih o' s' hk
   dsimp only at h
   split at h
   ·cases h
    refine ⟨by simp [i1], by simp; omega, ?_⟩
    intro x hx
    rcases List.mem_append.1 hx with hx | hx
    ·have := i3 x (List.mem_of_mem_take hx); omega
    ·simp at hx; omega
   ·cases h
theorem kidsF_bad {nd : Nat → Nd} {j : Nat} {o : List (List Nat)} {s : List Nat} (h : kidsF nd j = some (o, s)) (hb : ¬ (0 ≤ (nd j).kids ∧ (nd j).kids ≤ s.length)) (N : Nat) (hN : j < N) : kidsF nd N = none := by
 have h1 : kidsF nd (j + 1) = none := by simp only [kidsF]; rw [h]; simp only; rw [if_neg hb]
 induction N with
 | zero => omega
 | succ N ih =>
  by_cases e : j = N
  ·subst e; exact h1
  ·simp only [kidsF]; rw [ih (by omega)]
theorem kidsF_good {nd : Nat → Nd} {j k : Nat} {o : List (List Nat)} {sp sk : List Nat} (h : kidsF nd j = some (o, sp ++ sk)) (hk : (nd j).kids = k) (hl : sk.length = k) : kidsF nd (j + 1) = some (o ++ [sk], sp ++ [j]) := by
 have e : (sp ++ sk).length - ((k : Int)).toNat = sp.length := by simp; omega
 simp only [kidsF]; rw [h]; simp only
 rw [hk, if_pos ⟨by omega, by simp; omega⟩, e]
 simp
end Go.Proofs.YtbakebdfmdepnaaGreatDoor
namespace Go.Proofs.YtbakebdfmdepnaaGreatDoor
def upK (l : List Nat) : Nat := l.foldl (fun h x => max h (x + 1)) 0
theorem upK_snoc (l : List Nat) (x : Nat) : upK (l ++ [x]) = max (upK l) (x + 1) := by simp [upK]
def kidHighs (hs ks : List Nat) : List Nat := ks.map fun k => hs.getD k 0
def highs (o : List (List Nat)) : List Nat := o.foldl (fun hs ks => hs ++ [upK (kidHighs hs ks)]) []
theorem highs_snoc (o : List (List Nat)) (ks : List Nat) : highs (o ++ [ks]) = highs o ++ [upK (kidHighs (highs o) ks)] := by simp [highs]
theorem highs_length (o : List (List Nat)) : (highs o).length = o.length := by
 have : ∀ n, ∀ o : List (List Nat), o.length = n → (highs o).length = o.length := by
  intro n
  induction n with
  | zero => intro o h; rw [List.length_eq_zero_iff.1 h]; rfl
  | succ n ih =>
   intro o h
   obtain ⟨o', ks, rfl⟩ := (List.eq_nil_or_concat o).resolve_left (by rintro rfl; cases h)
   rw [List.concat_eq_append] at h ⊢
   rw [highs_snoc, List.length_append, List.length_append, ih o' (by simp at h; exact h)]
   rfl
 exact this _ o rfl
theorem highs_take (o : List (List Nat)) (i : Nat) (hi : i < o.length) : highs (o.take (i + 1)) = highs (o.take i) ++ [upK (kidHighs (highs (o.take i)) (o.getD i []))] := by
 rw [List.take_succ_eq_append_getElem hi, highs_snoc, List.getD_eq_getElem?_getD, List.getElem?_eq_getElem hi]
 rfl
theorem highs_pre (o : List (List Nat)) (j : Nat) : ∀ i, i < j → j ≤ o.length → (highs (o.take j)).getD i 0 = (highs o).getD i 0 := by
 have : ∀ d, ∀ j, j + d = o.length → ∀ i, i < j → (highs (o.take j)).getD i 0 = (highs o).getD i 0 := by
  intro d
  induction d with
  | zero => intro j h i _; rw [List.take_of_length_le (by omega)]
  | succ d ih =>
   intro j h i hi
   rw [← ih (j + 1) (by omega) i (by omega), highs_take o j (by omega)]
   rw [List.getD_eq_getElem?_getD, List.getD_eq_getElem?_getD, List.getElem?_append_left (by rw [highs_length, List.length_take]; omega)]
 intro i hi hj
 exact this (o.length - j) j (by omega) i hi
theorem upK_le {l : List Nat} {x : Nat} (h : x ∈ l) : x + 1 ≤ upK l := by
 have : ∀ n, ∀ l : List Nat, l.length = n → x ∈ l → x + 1 ≤ upK l := by
  intro n
  induction n with
  | zero => intro l h hx; rw [List.length_eq_zero_iff.1 h] at hx; cases hx
  | succ n ih =>
   intro l h hx
   obtain ⟨l', y, rfl⟩ := (List.eq_nil_or_concat l).resolve_left (by rintro rfl; cases h)
   rw [List.concat_eq_append] at h hx ⊢
   rw [upK_snoc]
   rcases List.mem_append.1 hx with hx | hx
   ·have := ih l' (by simp at h; exact h) hx
    omega
   ·simp at hx; omega
 exact this _ l rfl h
def FitAt (nd : Nat → Nd) (o : List (List Nat)) (i : Nat) : Prop := PlainNd (nd i) ∧ KidsOk (nd i).kind (o.getD i []).length (fun k => nd ((o.getD i []).getD k 0))
def ValidT (nd : Nat → Nd) (N : Nat) : Prop := 1 ≤ N ∧ N ≤ 5000 ∧ (nd (N - 1)).kind = 24 ∧ ∃ o x, kidsF nd N = some (o, [x]) ∧ ∀ i, i < N → (highs o).getD i 0 ≤ 50 ∧ FitAt nd o i
theorem kidsF_step {nd : Nat → Nd} {j : Nat} {o : List (List Nat)} {s : List Nat} (h : kidsF nd (j + 1) = some (o, s)) : ∃ o' sp sk, kidsF nd j = some (o', sp ++ sk) ∧ o = o' ++ [sk] ∧ s = sp ++ [j] ∧ (nd j).kids = sk.length := by
 simp only [kidsF] at h
 cases hk : kidsF nd j with
 | none => rw [hk] at h; cases h
 | some x =>
  obtain ⟨o', s'⟩ := x
  rw [hk] at h
  dsimp only at h
  split at h
  ·rename_i hc
   cases h
   refine ⟨o', _, _, by rw [List.take_append_drop], rfl, rfl, ?_⟩
   rw [List.length_drop]; omega
  ·cases h
theorem kidsF_pre {nd : Nat → Nd} {N : Nat} {o : List (List Nat)} {s : List Nat} (h : kidsF nd N = some (o, s)) (j : Nat) (hj : j ≤ N) : ∃ s', kidsF nd j = some (o.take j, s') := by
 induction N generalizing o s with
 | zero =>
  obtain rfl : j = 0 := by omega
  simp [kidsF] at h ⊢
 | succ N ih =>
  by_cases e : j = N + 1
  ·subst e
   have := (kidsF_len nd _ _ _ h).1
   exact ⟨s, by rw [List.take_of_length_le (by omega)]; exact h⟩
  ·obtain ⟨o', sp, sk, h1, rfl, rfl, _⟩ := kidsF_step h
   have := (kidsF_len nd _ _ _ h1).1
   rw [List.take_append_of_le_length (by omega)]
   exact ih h1 (by omega)
theorem kidsF_cover {nd : Nat → Nd} {j : Nat} {o : List (List Nat)} {s : List Nat} (h : kidsF nd j = some (o, s)) : ∀ i, i < j → ∃ y, y ∈ s ∧ (highs o).getD i 0 ≤ (highs o).getD y 0 := by
 induction j generalizing o s with
 | zero => intro i hi; omega
 | succ j ih =>
  intro i hi
  obtain ⟨o', sp, sk, h1, rfl, rfl, _⟩ := kidsF_step h
  have hl := kidsF_len nd _ _ _ h1
  have hh : (highs o').length = j := by rw [highs_length]; exact hl.1
  have old : ∀ y, y < j → (highs o' ++ [upK (kidHighs (highs o') sk)]).getD y 0 = (highs o').getD y 0 := fun y hy => by
   rw [List.getD_eq_getElem?_getD, List.getD_eq_getElem?_getD, List.getElem?_append_left (by omega)]
  have new : (highs o' ++ [upK (kidHighs (highs o') sk)]).getD j 0 = upK (kidHighs (highs o') sk) := by
   rw [List.getD_eq_getElem?_getD, List.getElem?_append_right (by omega), hh]; simp
  rw [highs_snoc]
  by_cases e : i = j
  ·subst e; exact ⟨i, by simp, Nat.le_refl _⟩
  ·obtain ⟨y, hy, hle⟩ := ih h1 i (by omega)
   have hyj := hl.2.2 y hy
   rcases List.mem_append.1 hy with hy | hy
   ·exact ⟨y, by simp [hy], by rw [old i (by omega), old y hyj]; exact hle⟩
   ·refine ⟨j, by simp, ?_⟩
    rw [old i (by omega), new]
    have := upK_le (l := kidHighs (highs o') sk) (x := (highs o').getD y 0) (List.mem_map.2 ⟨y, hy, rfl⟩)
    omega
theorem valid_end {nd : Nat → Nd} {N : Nat} {o : List (List Nat)} {s : List Nat} (hN : N ≤ 5000) (h : kidsF nd N = some (o, s)) (hf : ∀ i, i < N → FitAt nd o i) : ValidT nd N ↔ s.length = 1 ∧ (nd (s.getD 0 0)).kind = 24 ∧ (highs o).getD (s.getD 0 0) 0 ≤ 50 := by
 cases N with
 | zero =>
  simp [kidsF] at h
  obtain ⟨rfl, rfl⟩ := h
  constructor
  ·rintro ⟨h, _⟩; omega
  ·rintro ⟨h, _⟩; cases h
 | succ N =>
  obtain ⟨o', sp, sk, h1, ho, hs, _⟩ := kidsF_step h
  constructor
  ·rintro ⟨_, _, h3, o2, x, h4, h5⟩
   rw [h] at h4
   cases h4
   have hx : x = N := by
    cases sp with
    | nil => simp at hs; exact hs
    | cons a t => cases t <;> simp at hs
   subst hx
   exact ⟨rfl, by simpa using h3, by simpa using (h5 x (by omega)).1⟩
  ·rintro ⟨h3, h4, h5⟩
   obtain ⟨x, hx⟩ := List.length_eq_one_iff.1 h3
   subst hx
   have hx : x = N := by
    cases sp with
    | nil => simp at hs; exact hs
    | cons a t => cases t <;> simp at hs
   subst hx
   refine ⟨by omega, hN, by simpa using h4, o, x, h, fun i hi => ⟨?_, hf i hi⟩⟩
   obtain ⟨y, hy, hle⟩ := kidsF_cover h i hi
   simp at hy
   subst hy
   simp at h5
   simp at hle ⊢
   omega
theorem invalid_at {nd : Nat → Nd} {N j : Nat} {o : List (List Nat)} {sp sk : List Nat} (hj : j < N) (h : kidsF nd j = some (o, sp ++ sk)) (hk : (nd j).kids = sk.length) (hb : ¬ (PlainNd (nd j) ∧ KidsOk (nd j).kind sk.length (fun k => nd (sk.getD k 0)))) : ¬ ValidT nd N := by
 rintro ⟨_, _, _, O, x, h4, h5⟩
 obtain ⟨s', h6⟩ := kidsF_pre h4 (j + 1) (by omega)
 rw [kidsF_good h hk rfl] at h6
 injection h6 with h6
 injection h6 with h6 _
 have hl := kidsF_len nd _ _ _ h
 have hO := (kidsF_len nd _ _ _ h4).1
 have e : O.getD j [] = sk := by
  have : (O.take (j + 1))[j]? = (o ++ [sk])[j]? := by rw [h6]
  rw [List.getElem?_take_of_lt (by omega), List.getElem?_append_right (by omega), hl.1] at this
  rw [List.getD_eq_getElem?_getD, this]; simp
 have := (h5 j hj).2
 unfold FitAt at this
 rw [e] at this
 exact hb this
theorem FitAt_snoc {nd : Nat → Nd} {o : List (List Nat)} {sk : List Nat} (h : ∀ i, i < o.length → FitAt nd o i) (hn : PlainNd (nd o.length) ∧ KidsOk (nd o.length).kind sk.length (fun k => nd (sk.getD k 0))) : ∀ i, i < o.length + 1 → FitAt nd (o ++ [sk]) i := by
 intro i hi
 unfold FitAt
 by_cases e : i = o.length
 ·subst e
  have : (o ++ [sk]).getD o.length [] = sk := by rw [List.getD_eq_getElem?_getD, List.getElem?_append_right (Nat.le_refl _)]; simp
  rw [this]; exact hn
 ·have : (o ++ [sk]).getD i [] = o.getD i [] := by rw [List.getD_eq_getElem?_getD, List.getD_eq_getElem?_getD, List.getElem?_append_left (by omega)]
  rw [this]; exact h i (by omega)
end Go.Proofs.YtbakebdfmdepnaaGreatDoor
namespace Go.Proofs.YtbakebdfmdepnaaGreatDoor
abbrev Env := ByteArray → Int
def Env.ext (kn : Env) (s : ByteArray) (v : Int) : Env := fun t => if t = s then v else kn t
inductive Ev where
 | bind (k : Nat) (v : Int)
 | flt (k c : Nat)
def useE (nd : Nat → Nd) (kn : Env) (k : Nat) : List Ev := .bind k (kn (nd k).text) :: (if kn (nd k).text = -1 then [.flt k 9] else [])
def mkE (nd : Nat → Nd) (kn : Env) (k : Nat) : List Ev := if kn (nd k).text = (k : Int) then [] else [.flt k 8]
def inL (t : ByteArray) (ns : List ByteArray) : Bool := ns.any fun s => decide (s = t)
def prm (nd : Nat → Nd) (o : List (List Nat)) (W : Env → Nat → List Ev) : List Nat → Env → List ByteArray → Bool → List Ev × Env
 | [], kn, _, _ => ([], kn)
 | p :: ps, kn, ns, d =>
  ((o.getD p []).flatMap (W kn) ++ ((if inL (nd p).text ns = true then [.flt p 8] else []) ++ ((if d = true ∧ o.getD p [] = [] then [.flt p 10] else []) ++
   (prm nd o W ps (kn.ext (nd p).text p) ((nd p).text :: ns) (d || !(o.getD p []).isEmpty)).1)),
   (prm nd o W ps (kn.ext (nd p).text p) ((nd p).text :: ns) (d || !(o.getD p []).isEmpty)).2)
def fnE (nd : Nat → Nd) (o : List (List Nat)) (W : Env → Nat → List Ev) (ks : List Nat) (kn : Env) : List Ev :=
 (prm nd o W ks.dropLast kn [] false).1 ++ W (prm nd o W ks.dropLast kn [] false).2 (ks.getLastD 0)
def nodeE (nd : Nat → Nd) (o : List (List Nat)) (W : Env → Nat → List Ev) (k : Nat) (kn : Env) : List Ev :=
 if (nd k).kind = 5 then useE nd kn k
 else if (nd k).kind = 14 ∨ (nd k).kind = 16 then W kn ((o.getD k []).getD 0 0) ++ ((o.getD k []).drop 1).flatMap (W (kn.ext (nd k).text k))
 else if (nd k).kind = 15 ∨ (nd k).kind = 20 then fnE nd o W (o.getD k []) kn
 else if (nd k).kind = 23 then []
 else (o.getD k []).flatMap (W kn)
def wk (nd : Nat → Nd) (o : List (List Nat)) (k : Nat) (kn : Env) : List Ev :=
 nodeE nd o (fun kn j => if _h : j < k then wk nd o j kn else []) k kn
termination_by k
def Down (o : List (List Nat)) : Prop := ∀ k, ∀ j ∈ o.getD k [], j < k
theorem flatMap_congr' {α β : Type} {l : List α} {f g : α → List β} (h : ∀ x ∈ l, f x = g x) : l.flatMap f = l.flatMap g := by
 induction l with
 | nil => rfl
 | cons a l ih => rw [List.flatMap_cons, List.flatMap_cons, h a (by simp), ih fun x hx => h x (by simp [hx])]
theorem prm_congr {nd : Nat → Nd} {o : List (List Nat)} {V W : Env → Nat → List Ev} (ps : List Nat) (h : ∀ p ∈ ps, ∀ j ∈ o.getD p [], ∀ kn, V kn j = W kn j) (kn : Env) (ns : List ByteArray) (d : Bool) : prm nd o V ps kn ns d = prm nd o W ps kn ns d := by
 induction ps generalizing kn ns d with
 | nil => rfl
 | cons p ps ih =>
  simp only [prm]
  rw [ih (fun q hq => h q (by simp [hq])), flatMap_congr' (g := W kn) fun j hj => h p (by simp) j hj kn]
theorem dropLast_sub {l : List Nat} {x : Nat} (h : x ∈ l.dropLast) : x ∈ l := List.dropLast_subset _ h
theorem getLastD_mem {l : List Nat} (h : l ≠ []) : l.getLastD 0 ∈ l := by
 cases l with
 | nil => exact absurd rfl h
 | cons a l => simp [List.getLastD]
theorem nodeE_congr {nd : Nat → Nd} {o : List (List Nat)} {V W : Env → Nat → List Ev} {k : Nat} (hd : Down o) (h : ∀ j, j < k → ∀ kn, V kn j = W kn j) (h1 : (nd k).kind = 14 ∨ (nd k).kind = 16 ∨ (nd k).kind = 15 ∨ (nd k).kind = 20 → o.getD k [] ≠ []) (kn : Env) : nodeE nd o V k kn = nodeE nd o W k kn := by
 unfold nodeE
 split
 ·rfl
 split
 ·rename_i hk
  have hne := h1 (by omega)
  obtain ⟨a, t, e⟩ := List.exists_cons_of_ne_nil hne
  rw [h _ (hd k _ (by rw [e]; simp)), flatMap_congr' fun j hj => h j (hd k j (List.mem_of_mem_drop hj)) _]
 split
 ·rename_i hk
  have hne := h1 (by omega)
  unfold fnE
  rw [prm_congr (V := V) (W := W) _ fun p hp j hj kn => h j (Nat.lt_trans (hd p j hj) (hd k p (dropLast_sub hp))) kn]
  rw [h _ (hd k _ (getLastD_mem hne))]
 split
 ·rfl
 ·exact flatMap_congr' fun j hj => h j (hd k j hj) kn
def Kidded (nd : Nat → Nd) (o : List (List Nat)) (k : Nat) : Prop := (nd k).kind = 14 ∨ (nd k).kind = 16 ∨ (nd k).kind = 15 ∨ (nd k).kind = 20 → o.getD k [] ≠ []
theorem wk_eq {nd : Nat → Nd} {o : List (List Nat)} {k : Nat} (hd : Down o) (hk : Kidded nd o k) (kn : Env) : wk nd o k kn = nodeE nd o (fun kn j => wk nd o j kn) k kn := by
 rw [wk]
 exact nodeE_congr hd (fun j hj kn => by simp [hj]) hk kn
def fls : List Ev → List (Nat × Nat)
 | [] => []
 | .bind _ _ :: r => fls r
 | .flt k c :: r => (k, c) :: fls r
theorem fls_append (a b : List Ev) : fls (a ++ b) = fls a ++ fls b := by
 induction a with
 | nil => rfl
 | cons x a ih => cases x <;> simp [fls, ih]
theorem fls_flatMap {α : Type} (l : List α) (f : α → List Ev) : fls (l.flatMap f) = l.flatMap fun x => fls (f x) := by
 induction l with
 | nil => rfl
 | cons a l ih => rw [List.flatMap_cons, List.flatMap_cons, fls_append, ih]
def apB (bn : Nat → Int) : List Ev → Nat → Int
 | [] => bn
 | .bind k v :: r => apB (fun j => if j = k then v else bn j) r
 | .flt _ _ :: r => apB bn r
theorem apB_append (bn : Nat → Int) (a b : List Ev) : apB bn (a ++ b) = apB (apB bn a) b := by
 induction a generalizing bn with
 | nil => rfl
 | cons x a ih => cases x <;> simp [apB, ih]
def Same (a b : Env) : Prop := ∀ t, a t = -1 ↔ b t = -1
theorem Same.ext {a b : Env} (h : Same a b) (s : ByteArray) (k : Nat) : Same (a.ext s k) (b.ext s k) := by
 intro t
 unfold Env.ext
 split
 ·omega
 ·exact h t
theorem fls_use {nd : Nat → Nd} {a b : Env} (h : Same a b) (k : Nat) : fls (useE nd a k) = fls (useE nd b k) := by
 unfold useE
 by_cases e : a (nd k).text = -1
 ·rw [if_pos e, if_pos ((h _).1 e)]; rfl
 ·rw [if_neg e, if_neg (fun e2 => e ((h _).2 e2))]; rfl
theorem prm_same {nd : Nat → Nd} {o : List (List Nat)} {W : Env → Nat → List Ev} (ps : List Nat) (h : ∀ p ∈ ps, ∀ j ∈ o.getD p [], ∀ a b, Same a b → fls (W a j) = fls (W b j)) (a b : Env) (hs : Same a b) (ns : List ByteArray) (d : Bool) :
  fls (prm nd o W ps a ns d).1 = fls (prm nd o W ps b ns d).1 ∧ Same (prm nd o W ps a ns d).2 (prm nd o W ps b ns d).2 := by
 induction ps generalizing a b ns d with
 | nil => exact ⟨rfl, hs⟩
 | cons p ps ih =>
  have i := ih (fun q hq => h q (by simp [hq])) (a.ext (nd p).text p) (b.ext (nd p).text p) (hs.ext _ _) ((nd p).text :: ns) (d || !(o.getD p []).isEmpty)
  simp only [prm, fls_append]
  rw [i.1, fls_flatMap, fls_flatMap, flatMap_congr' fun j hj => h p (by simp) j hj a b hs]
  exact ⟨rfl, i.2⟩
theorem fls_same {nd : Nat → Nd} {o : List (List Nat)} (hd : Down o) (N : Nat) (hk : ∀ k, k < N → Kidded nd o k) (k : Nat) : k < N → ∀ a b, Same a b → fls (wk nd o k a) = fls (wk nd o k b) := by
 induction k using Nat.strongRecOn with
 | ind k ih =>
  intro hN a b hs
  rw [wk_eq hd (hk k hN), wk_eq hd (hk k hN)]
  unfold nodeE
  split
  ·exact fls_use hs k
  split
  ·rename_i h0
   obtain ⟨x, t, e⟩ := List.exists_cons_of_ne_nil (hk k hN (by omega))
   rw [fls_append, fls_append, fls_flatMap, fls_flatMap, ih _ (hd k _ (by rw [e]; simp)) (by have := hd k x (by rw [e]; simp); rw [e]; simp; omega) a b hs, flatMap_congr' fun j hj => ih j (hd k j (List.mem_of_mem_drop hj)) (by have := hd k j (List.mem_of_mem_drop hj); omega) _ _ (hs.ext (nd k).text k)]
  split
  ·rename_i h0 _
   have p := prm_same (nd := nd) (o := o) (W := fun kn j => wk nd o j kn) (o.getD k []).dropLast (fun p hp j hj a b hs => ih j (Nat.lt_trans (hd p j hj) (hd k p (dropLast_sub hp))) (by have := hd p j hj; have := hd k p (dropLast_sub hp); omega) a b hs) a b hs [] false
   unfold fnE
   rw [fls_append, fls_append, p.1, ih _ (hd k _ (getLastD_mem (hk k hN (by omega)))) (by have := hd k _ (getLastD_mem (hk k hN (by omega))); omega) _ _ p.2]
  split
  ·rfl
  ·rw [fls_flatMap, fls_flatMap]
   exact flatMap_congr' fun j hj => ih j (hd k j hj) (by have := hd k j hj; omega) a b hs
def low (o : List (List Nat)) (k : Nat) : Nat :=
 match o.getD k [] with
 | [] => k
 | x :: _ => if _h : x < k then low o x else k
termination_by k
def Tile (o : List (List Nat)) : Nat → List Nat → Nat → Prop
 | a, [], b => a = b
 | a, x :: r, b => low o x = a ∧ a ≤ x ∧ Tile o (x + 1) r b
theorem Tile.le {o : List (List Nat)} {s : List Nat} {a b : Nat} (h : Tile o a s b) : a ≤ b := by
 induction s generalizing a with
 | nil => exact Nat.le_of_eq h
 | cons x r ih => have := ih h.2.2; have := h.2.1; omega
theorem Tile.split {o : List (List Nat)} {s t : List Nat} {a b : Nat} (h : Tile o a (s ++ t) b) : ∃ m, Tile o a s m ∧ Tile o m t b := by
 induction s generalizing a with
 | nil => exact ⟨a, rfl, h⟩
 | cons x r ih =>
  obtain ⟨m, h1, h2⟩ := ih h.2.2
  exact ⟨m, ⟨h.1, h.2.1, h1⟩, h2⟩
theorem Tile.snoc {o : List (List Nat)} {s : List Nat} {a m x : Nat} (h : Tile o a s m) (h1 : low o x = m) (h2 : m ≤ x) : Tile o a (s ++ [x]) (x + 1) := by
 induction s generalizing a with
 | nil =>
  have e : a = m := h
  exact ⟨by rw [h1, e], by omega, rfl⟩
 | cons y r ih => exact ⟨h.1, h.2.1, ih h.2.2⟩
theorem Tile.lt {o : List (List Nat)} {s : List Nat} {a b : Nat} (h : Tile o a s b) : ∀ x ∈ s, a ≤ x ∧ x < b := by
 induction s generalizing a with
 | nil => intro x hx; cases hx
 | cons y r ih =>
  intro x hx
  have := h.2.1
  have := h.2.2.le
  rcases List.mem_cons.1 hx with e | hx
  ·subst e; omega
  ·have := ih h.2.2 x hx; omega
theorem kidsF_at {nd : Nat → Nd} {N : Nat} {O : List (List Nat)} {S : List Nat} (h : kidsF nd N = some (O, S)) (j : Nat) (hj : j < N) : ∃ sp sk, kidsF nd j = some (O.take j, sp ++ sk) ∧ kidsF nd (j + 1) = some (O.take (j + 1), sp ++ [j]) ∧ O.getD j [] = sk := by
 obtain ⟨s', h1⟩ := kidsF_pre h (j + 1) hj
 obtain ⟨o', sp, sk, h2, h3, rfl, _⟩ := kidsF_step h1
 have l2 := (kidsF_len nd _ _ _ h2).1
 have lO := (kidsF_len nd _ _ _ h).1
 have e : O.take j = o' := by
  have : (O.take (j + 1)).take j = (o' ++ [sk]).take j := by rw [h3]
  rw [List.take_take, Nat.min_eq_left (by omega)] at this
  rw [this, ← l2]; simp
 refine ⟨sp, sk, by rw [e]; exact h2, h1, ?_⟩
 have : (O.take (j + 1))[j]? = (o' ++ [sk])[j]? := by rw [h3]
 rw [List.getElem?_take_of_lt (by omega), List.getElem?_append_right (by omega), l2] at this
 rw [List.getD_eq_getElem?_getD, this]; simp
theorem tile_all {nd : Nat → Nd} {N : Nat} {O : List (List Nat)} {S : List Nat} (h : kidsF nd N = some (O, S)) (j : Nat) (hj : j ≤ N) : ∃ s, kidsF nd j = some (O.take j, s) ∧ Tile O 0 s j ∧ ∀ k, k < j → Tile O (low O k) (O.getD k []) k := by
 induction j with
 | zero => exact ⟨[], rfl, rfl, fun k hk => absurd hk (Nat.not_lt_zero _)⟩
 | succ j ih =>
  obtain ⟨s, h1, h2, h3⟩ := ih (by omega)
  obtain ⟨sp, sk, h4, h5, h6⟩ := kidsF_at h j (by omega)
  rw [h1] at h4
  injection h4 with h4
  injection h4 with _ h4
  subst h4
  obtain ⟨m, t1, t2⟩ := h2.split
  have hl : low O j = m := by
   rw [low, h6]
   cases sk with
   | nil => exact t2.symm
   | cons x r =>
    have := t2.lt x (by simp)
    simp only [this.2, dite_true]
    exact t2.1
  refine ⟨_, h5, t1.snoc hl t2.le, fun k hk => ?_⟩
  by_cases e : k = j
  ·subst e; rw [h6, hl]; exact t2
  ·exact h3 k (by omega)
theorem down_of {nd : Nat → Nd} {N : Nat} {O : List (List Nat)} {S : List Nat} (h : kidsF nd N = some (O, S)) : Down O := by
 intro k j hj
 have hl := (kidsF_len nd _ _ _ h).1
 by_cases hk : k < N
 ·obtain ⟨_, _, _, h3⟩ := tile_all h N (Nat.le_refl _)
  exact ((h3 k hk).lt j hj).2
 ·rw [List.getD_eq_getElem?_getD, List.getElem?_eq_none (by omega)] at hj
  cases hj
def FLt (x y : Nat × Nat) : Prop := x.1 < y.1 ∨ x.1 = y.1 ∧ x.2 < y.2
def Srt (a b : Nat) (l : List (Nat × Nat)) : Prop := l.Pairwise FLt ∧ ∀ x ∈ l, a ≤ x.1 ∧ x.1 < b ∧ 8 ≤ x.2
theorem Srt.nil (a b : Nat) : Srt a b [] := ⟨List.Pairwise.nil, fun x h => by cases h⟩
theorem Srt.append {a b c : Nat} {l r : List (Nat × Nat)} (h1 : Srt a b l) (h2 : Srt b c r) (hab : a ≤ b) (hbc : b ≤ c) : Srt a c (l ++ r) := by
 refine ⟨List.pairwise_append.2 ⟨h1.1, h2.1, fun x hx y hy => .inl ?_⟩, fun x hx => ?_⟩
 ·have := h1.2 x hx; have := h2.2 y hy; omega
 ·rcases List.mem_append.1 hx with hx | hx
  ·have := h1.2 x hx; omega
  ·have := h2.2 x hx; omega
theorem Srt.mono {a b c d : Nat} {l : List (Nat × Nat)} (h : Srt a b l) (h1 : c ≤ a) (h2 : b ≤ d) : Srt c d l := ⟨h.1, fun x hx => by have := h.2 x hx; omega⟩
theorem Srt.one (k c : Nat) (hc : 8 ≤ c) : Srt k (k + 1) [(k, c)] := ⟨by simp, fun x hx => by simp at hx; subst hx; exact ⟨Nat.le_refl _, Nat.lt_succ_self _, hc⟩⟩
theorem srt_tile {o : List (List Nat)} {f : Nat → List (Nat × Nat)} (s : List Nat) (a b : Nat) (h : Tile o a s b) (hf : ∀ x ∈ s, Srt (low o x) (x + 1) (f x)) : Srt a b (s.flatMap f) := by
 induction s generalizing a with
 | nil => exact Srt.nil _ _
 | cons x r ih =>
  rw [List.flatMap_cons]
  have := hf x (by simp)
  rw [h.1] at this
  exact this.append (ih (x + 1) h.2.2 fun y hy => hf y (by simp [hy])) (by have := h.2.1; omega) h.2.2.le
theorem srt_prm {nd : Nat → Nd} {o : List (List Nat)} {W : Env → Nat → List Ev} (ps : List Nat) (a b : Nat) (h : Tile o a ps b) (ht : ∀ p ∈ ps, Tile o (low o p) (o.getD p []) p) (hW : ∀ p ∈ ps, ∀ j ∈ o.getD p [], ∀ kn, Srt (low o j) (j + 1) (fls (W kn j))) (kn : Env) (ns : List ByteArray) (d : Bool) : Srt a b (fls (prm nd o W ps kn ns d).1) := by
 induction ps generalizing a kn ns d with
 | nil => exact Srt.nil _ _
 | cons p ps ih =>
  have i := ih (p + 1) h.2.2 (fun q hq => ht q (by simp [hq])) (fun q hq => hW q (by simp [hq])) (kn.ext (nd p).text p) ((nd p).text :: ns) (d || !(o.getD p []).isEmpty)
  have t := ht p (by simp)
  rw [h.1] at t
  have k1 : Srt a p (fls ((o.getD p []).flatMap (W kn))) := by
   rw [fls_flatMap]
   exact srt_tile _ _ _ t fun j hj => hW p (by simp) j hj kn
  have k2 : Srt p (p + 1) (fls (if inL (nd p).text ns = true then [.flt p 8] else []) ++ fls (if d = true ∧ o.getD p [] = [] then [.flt p 10] else [])) := by
   split <;> split <;> simp only [fls, List.nil_append, List.append_nil]
   ·refine ⟨by simp [FLt], fun x hx => ?_⟩
    simp at hx
    rcases hx with rfl | rfl <;> simp
   ·exact Srt.one _ _ (by decide)
   ·exact Srt.one _ _ (by decide)
   ·exact Srt.nil _ _
  have := h.2.1
  have := h.2.2.le
  simp only [prm, fls_append]
  rw [← List.append_assoc (fls (if inL (nd p).text ns = true then [.flt p 8] else []))]
  exact k1.append (k2.append i (by omega) (by omega)) (by omega) (by omega)
theorem last_split {l : List Nat} (h : l ≠ []) : l = l.dropLast ++ [l.getLastD 0] := by
 have := List.dropLast_concat_getLast h
 rw [List.getLastD_eq_getLast?, List.getLast?_eq_some_getLast h]
 exact this.symm
theorem srt_wk {nd : Nat → Nd} {o : List (List Nat)} (hd : Down o) (N : Nat) (hk : ∀ k, k < N → Kidded nd o k) (ht : ∀ k, k < N → Tile o (low o k) (o.getD k []) k) (k : Nat) : k < N → ∀ kn, Srt (low o k) (k + 1) (fls (wk nd o k kn)) ∧ (¬ (nd k).kind = 5 → Srt (low o k) k (fls (wk nd o k kn))) := by
 induction k using Nat.strongRecOn with
 | ind k ih =>
  intro hN kn
  have t := ht k hN
  have tl := t.le
  have go : ∀ j ∈ o.getD k [], ∀ kn, Srt (low o j) (j + 1) (fls (wk nd o j kn)) := fun j hj kn => (ih j (hd k j hj) (by have := hd k j hj; omega) kn).1
  rw [wk_eq hd (hk k hN)]
  by_cases h5 : (nd k).kind = 5
  ·refine ⟨?_, fun h => absurd h5 h⟩
   unfold nodeE
   rw [if_pos h5]
   unfold useE
   split
   ·exact (Srt.one k 9 (by decide)).mono tl (Nat.le_refl _)
   ·exact Srt.nil _ _
  ·suffices h : Srt (low o k) k (fls (nodeE nd o (fun kn j => wk nd o j kn) k kn)) from ⟨h.mono (Nat.le_refl _) (Nat.le_succ _), fun _ => h⟩
   unfold nodeE
   rw [if_neg h5]
   split
   ·rename_i h0
    obtain ⟨x, r, e⟩ := List.exists_cons_of_ne_nil (hk k hN (by omega))
    rw [e] at t go ⊢
    rw [fls_append, fls_flatMap]
    have := go x (by simp) kn
    rw [t.1] at this
    exact this.append (srt_tile _ _ _ t.2.2 fun j hj => go j (by simp [show j ∈ r from hj]) _) (by have := t.2.1; omega) t.2.2.le
   split
   ·rename_i h0 _
    have hne := hk k hN (by omega)
    have hm := getLastD_mem hne
    unfold fnE
    rw [last_split hne] at t
    obtain ⟨m, t1, t2⟩ := t.split
    have := go _ hm (prm nd o (fun kn j => wk nd o j kn) (o.getD k []).dropLast kn [] false).2
    rw [t2.1] at this
    rw [fls_append]
    have e : (o.getD k []).getLastD 0 + 1 = k := t2.2.2
    have := (srt_prm (nd := nd) (W := fun kn j => wk nd o j kn) _ _ _ t1 (fun p hp => ht p (by have := hd k p (dropLast_sub hp); omega)) (fun p hp j hj kn => (ih j (by have := hd k p (dropLast_sub hp); have := hd p j hj; omega) (by have := hd k p (dropLast_sub hp); have := hd p j hj; omega) kn).1) kn [] false).append this t1.le (by have := t2.2.1; omega)
    exact this.mono (Nat.le_refl _) (by omega)
   split
   ·exact Srt.nil _ _
   ·rw [fls_flatMap]
    exact srt_tile _ _ _ t fun j hj => go j hj kn
end Go.Proofs.YtbakebdfmdepnaaGreatDoor
namespace Go.Proofs.YtbakebdfmdepnaaGreatDoor
open Go.RowKit
set_option maxRecDepth 20000
def SixAt (W : World) (g o : Nat) (x : Nd) (h : Nat) : Prop :=
 W.cell? ⟨g, o, none⟩ = some (.int .i64 x.kind) ∧ W.cell? ⟨g, o + 1, none⟩ = some (.int .i64 x.op) ∧ W.cell? ⟨g, o + 2, none⟩ = some (.int .i64 x.n) ∧ W.cell? ⟨g, o + 3, none⟩ = some (.string x.text) ∧ W.cell? ⟨g, o + 4, none⟩ = some (.int .i64 x.kids) ∧ W.cell? ⟨g, o + 5, none⟩ = some (.int .i64 h)
theorem SixAt.below {W W' : World} {B g o h : Nat} {x : Nd} (hs : SixAt W g o x h) (hb : Below B W W') (hB : g < B) : SixAt W' g o x h := by
 obtain ⟨h0, h1, h2, h3, h4, h5⟩ := hs
 exact ⟨(hb.cell (p := ⟨g, _, none⟩) hB).trans h0, (hb.cell (p := ⟨g, _, none⟩) hB).trans h1, (hb.cell (p := ⟨g, _, none⟩) hB).trans h2, (hb.cell (p := ⟨g, _, none⟩) hB).trans h3, (hb.cell (p := ⟨g, _, none⟩) hB).trans h4, (hb.cell (p := ⟨g, _, none⟩) hB).trans h5⟩
def StandAt (W : World) (g o m : Nat) (st : Nat → Nd) (hi : Nat → Nat) : Prop := ∀ i, i < m → SixAt W g (o + i * 6) (st i) (hi i)
theorem StandAt.below {W W' : World} {B g o m : Nat} {st : Nat → Nd} {hi : Nat → Nat} (h : StandAt W g o m st hi) (hb : Below B W W') (hB : g < B) : StandAt W' g o m st hi := fun i hm => (h i hm).below hb hB
set_option maxHeartbeats 1000000 in
theorem highAbove_any (g o m c : Nat) (st : Nat → Nd) (hi : Nat → Nat) (w : World) (hm : m ≤ 5000) (hh : ∀ i, i < m → hi i ≤ 5000) (hg : g < w.heap.size) (hs : StandAt w g o m st hi) :
  Calls Tryz.prog 38 #[.slice (some ⟨g, o, none⟩) m c] w fun e w' => e = .returned (.int .i64 (upK ((List.range m).map hi))) ∧ Below w.heap.size w w' := by
 have HS := hid hs
 clear hs
 go_enter Tryz.func38, Tryz.ntmps38
 go_wp2
 go_loopw [3, 8] (fun h i wr => ∃ j : Nat, j ≤ m ∧ i = .int .i64 j ∧ h = .int .i64 (upK ((List.range j).map hi)) ∧ upK ((List.range j).map hi) ≤ 5001 ∧ Below w.heap.size w wr) (fun _ i _ => m - (intOf i).toNat)
 case atStart => exact ⟨0, Nat.zero_le _, rfl, rfl, by simp [upK], Below.refl _ _⟩
 case round =>
  obtain ⟨j, hj, rfl, rfl, hu, hbw⟩ := hrel
  have HBW := hid hbw
  clear hbw
  by_cases hlt : j < m
  ·obtain ⟨a0, a1, a2, a3, a4, a5⟩ := (HS.out.below HBW.out hg) j hlt
   have HU : Hid (upK ((List.range (j + 1)).map hi) = max (upK ((List.range j).map hi)) (hi j + 1)) := by
    show _ = _
    rw [List.range_succ, List.map_append, ← upK_snoc]; rfl
   have hhj := hh j hlt
   generalize upK ((List.range j).map hi) = u at *
   go_wp2
   go_roundw
   case rel => exact ⟨j + 1, by omega, by go_num, by rw [HU.out]; congr 1; split <;> omega, by rw [HU.out]; omega, HBW.out.alloc HBW.out.size _⟩
   case measure => simp [intOf]; omega
  ·obtain rfl : j = m := by omega
   go_wp2
   go_ret
   exact ⟨rfl, HBW.out⟩
set_option maxHeartbeats 400000 in
theorem highAbove_none (ad : Option Addr) (c : Nat) (w : World) :
  Calls Tryz.prog 38 #[.slice ad 0 c] w fun e w' => e = .returned (.int .i64 0) ∧ w' = w := by
 go_enter Tryz.func38, Tryz.ntmps38
 go_wp2
 go_loopw [3, 8] (fun h i wr => i = .int .i64 0 ∧ h = .int .i64 0 ∧ wr = w) (fun _ _ _ => 0)
 case atStart => exact ⟨rfl, rfl, rfl⟩
 case round =>
  obtain ⟨rfl, rfl, rfl⟩ := hrel
  go_wp2
  go_ret
  exact ⟨rfl, rfl⟩
def StA (W : World) (ad : Option Addr) (m : Nat) (st : Nat → Nd) (hi : Nat → Nat) : Prop := m = 0 ∨ ∃ g o, ad = some ⟨g, o, none⟩ ∧ g < W.heap.size ∧ StandAt W g o m st hi
theorem StA.below {W W' : World} {ad : Option Addr} {m : Nat} {st : Nat → Nd} {hi : Nat → Nat} (h : StA W ad m st hi) (hb : Below W.heap.size W W') : StA W' ad m st hi := by
 rcases h with h | ⟨g, o, rfl, h1, h2⟩
 ·exact .inl h
 ·exact .inr ⟨g, o, rfl, Nat.lt_of_lt_of_le h1 hb.size, h2.below hb h1⟩
theorem highAbove_all (ad : Option Addr) (m c : Nat) (st : Nat → Nd) (hi : Nat → Nat) (w : World) (hm : m ≤ 5000) (hh : ∀ i, i < m → hi i ≤ 5000) (hs : StA w ad m st hi) :
  Calls Tryz.prog 38 #[.slice ad m c] w fun e w' => e = .returned (.int .i64 (upK ((List.range m).map hi))) ∧ Below w.heap.size w w' := by
 rcases hs with rfl | ⟨g, o, rfl, h1, h2⟩
 ·refine (highAbove_none ad c w).mono ?_
  rintro e w' ⟨rfl, rfl⟩
  exact ⟨rfl, Below.refl _ _⟩
 ·exact highAbove_any g o m c st hi w hm hh h1 h2
def FiveA (W : World) (a : Addr) (x : Nd) : Prop :=
 W.cell? a = some (.int .i64 x.kind) ∧ W.cell? ⟨a.block, a.off + 1, none⟩ = some (.int .i64 x.op) ∧ W.cell? ⟨a.block, a.off + 2, none⟩ = some (.int .i64 x.n) ∧ W.cell? ⟨a.block, a.off + 3, none⟩ = some (.string x.text) ∧ W.cell? ⟨a.block, a.off + 4, none⟩ = some (.int .i64 x.kids)
theorem add_blockC (a : Addr) (n : Nat) : (a.add n).block = a.block := by unfold Addr.add; split <;> rfl
def NodesA (W : World) (ad : Option Addr) (N : Nat) (nd : Nat → Nd) : Prop := N = 0 ∨ ∃ a, ad = some a ∧ a.block < W.heap.size ∧ ∀ i, i < N → FiveA W (a.add (i * 5)) (nd i)
theorem NodesA.below {W W' : World} {ad : Option Addr} {N : Nat} {nd : Nat → Nd} (h : NodesA W ad N nd) (hb : Below W.heap.size W W') : NodesA W' ad N nd := by
 rcases h with h | ⟨a, rfl, h1, h2⟩
 ·exact .inl h
 ·refine .inr ⟨a, rfl, Nat.lt_of_lt_of_le h1 hb.size, fun i hi => ?_⟩
  have hk : ∀ p : Addr, p.block = a.block → W'.cell? p = W.cell? p := fun p hp => hb.cell (by rw [hp]; exact h1)
  obtain ⟨c0, c1, c2, c3, c4⟩ := h2 i hi
  exact ⟨(hk _ (add_blockC a _)).trans c0, (hk ⟨_, _, none⟩ (add_blockC a _)).trans c1, (hk ⟨_, _, none⟩ (add_blockC a _)).trans c2, (hk ⟨_, _, none⟩ (add_blockC a _)).trans c3, (hk ⟨_, _, none⟩ (add_blockC a _)).trans c4⟩
theorem cell_alloc_lt (w : World) (X : Obj) (g o : Nat) (h : g < w.heap.size) : (w.alloc X).cell? ⟨g, o, none⟩ = w.cell? ⟨g, o, none⟩ := ((Below.refl (w.heap.size) w).alloc (Nat.le_refl _) X).cell (p := ⟨g, o, none⟩) h
def FirstP (m : Nat) (P : Nat → Prop) (e : Ending) : Prop := (∃ i : Nat, i < m ∧ e = .returned (.int .i64 i) ∧ P i ∧ ∀ j, j < i → ¬ P j) ∨ e = .returned (.int .i64 (-1)) ∧ ∀ j, j < m → ¬ P j
theorem none_succ {P : Nat → Prop} {j : Nat} (h : ∀ i, i < j → ¬ P i) (hj : ¬ P j) : ∀ i, i < j + 1 → ¬ P i := fun i hi => by
 rcases Nat.lt_or_eq_of_le (Nat.lt_succ_iff.1 hi) with h1 | h1
 ·exact h i h1
 ·subst h1; exact hj
set_option maxHeartbeats 1000000 in
theorem indexKinds_any (ga gb g o m c : Nat) (lo hi : Int) (st : Nat → Nd) (sh : Nat → Nat) (w : World) (hm : m ≤ 5000) (hg : g < w.heap.size) (hs : StandAt w g o m st sh) (ha : w.cell? ⟨ga, 0, none⟩ = some (.int .i64 lo)) (hb : w.cell? ⟨gb, 0, none⟩ = some (.int .i64 hi)) (la : ga < w.heap.size) (lb : gb < w.heap.size) :
  Calls Tryz.prog 92 #[.slice (some ⟨g, o, none⟩) m c, .func (.func 91) #[] #[.pointer (some ⟨ga, 0, none⟩), .pointer (some ⟨gb, 0, none⟩)]] w fun e w' => FirstP m (fun i => (st i).kind < lo ∨ hi < (st i).kind) e ∧ Below w.heap.size w w' := by
 have HS := hid hs
 have HA0 := hid ha
 have HB0 := hid hb
 clear hs ha hb
 go_enter Tryz.func92, Tryz.ntmps92
 go_wp2
 go_loopw [8] (fun i wr => ∃ j : Nat, j ≤ m ∧ i = .int .i64 j ∧ (∀ i, i < j → ¬ ((st i).kind < lo ∨ hi < (st i).kind)) ∧ Below w.heap.size w wr) (fun i _ => m - (intOf i).toNat)
 case atStart => exact ⟨0, Nat.zero_le _, rfl, fun i h => absurd h (Nat.not_lt_zero _), Below.refl _ _⟩
 case round =>
  obtain ⟨j, hj, rfl, hin, hbw⟩ := hrel
  have HBW := hid hbw
  have HIN := hid hin
  clear hbw hin
  by_cases hlt : j < m
  ·obtain ⟨a0, a1, a2, a3, a4, a5⟩ := (HS.out.below HBW.out hg) j hlt
   have HN := hid (HBW.out.alloc HBW.out.size (.cells #[.int .i64 (st j).kind, .int .i64 (st j).op, .int .i64 (st j).n, .string (st j).text, .int .i64 (st j).kids, .int .i64 (sh j)] 80))
   have ha' := (HN.out.cell (p := ⟨ga, 0, none⟩) la).trans HA0.out
   have hb' := (HN.out.cell (p := ⟨gb, 0, none⟩) lb).trans HB0.out
   by_cases c1 : (st j).kind < lo
   ·have HC : Hid ((st j).kind < lo ∨ hi < (st j).kind) := .inl c1
    go_wp2
    go_ret
    exact ⟨.inl ⟨j, hlt, rfl, HC.out, HIN.out⟩, HN.out⟩
   ·by_cases c2 : hi < (st j).kind
    ·have HC : Hid ((st j).kind < lo ∨ hi < (st j).kind) := .inr c2
     go_wp2
     go_ret
     exact ⟨.inl ⟨j, hlt, rfl, HC.out, HIN.out⟩, HN.out⟩
    ·have HX := hid (none_succ HIN.out (fun h => h.elim c1 c2))
     go_wp2
     go_roundw
     case rel => exact ⟨j + 1, by omega, by go_num, HX.out, HN.out⟩
     case measure => simp [intOf]; omega
  ·obtain rfl : j = m := by omega
   go_wp2
   go_ret
   exact ⟨.inr ⟨rfl, HIN.out⟩, HBW.out⟩
set_option maxHeartbeats 400000 in
theorem index_none (ad : Option Addr) (c : Nat) (f : Value) (w : World) :
  Calls Tryz.prog 92 #[.slice ad 0 c, f] w fun e w' => e = .returned (.int .i64 (-1)) ∧ w' = w := by
 go_enter Tryz.func92, Tryz.ntmps92
 go_wp2
 go_loopw [8] (fun i wr => i = .int .i64 0 ∧ wr = w) (fun _ _ => 0)
 case atStart => exact ⟨rfl, rfl⟩
 case round =>
  obtain ⟨rfl, rfl⟩ := hrel
  go_wp2
  go_ret
  exact ⟨rfl, rfl⟩
theorem indexKinds_all (ga gb : Nat) (ad : Option Addr) (m c : Nat) (lo hi : Int) (st : Nat → Nd) (sh : Nat → Nat) (w : World) (hm : m ≤ 5000) (hs : StA w ad m st sh) (ha : w.cell? ⟨ga, 0, none⟩ = some (.int .i64 lo)) (hb : w.cell? ⟨gb, 0, none⟩ = some (.int .i64 hi)) (la : ga < w.heap.size) (lb : gb < w.heap.size) :
  Calls Tryz.prog 92 #[.slice ad m c, .func (.func 91) #[] #[.pointer (some ⟨ga, 0, none⟩), .pointer (some ⟨gb, 0, none⟩)]] w fun e w' => FirstP m (fun i => (st i).kind < lo ∨ hi < (st i).kind) e ∧ Below w.heap.size w w' := by
 rcases hs with rfl | ⟨g, o, rfl, h1, h2⟩
 ·refine (index_none ad c _ w).mono ?_
  rintro e w' ⟨rfl, rfl⟩
  exact ⟨.inr ⟨rfl, fun j h => absurd h (Nat.not_lt_zero _)⟩, Below.refl _ _⟩
 ·exact indexKinds_any ga gb g o m c lo hi st sh w hm h1 h2 ha hb la lb
theorem two_cells (w : World) (a b : Value) (t : TypeId) : ((w.alloc (.cells #[a] t)).alloc (.cells #[b] t)).cell? ⟨w.heap.size, 0, none⟩ = some a ∧ ((w.alloc (.cells #[a] t)).alloc (.cells #[b] t)).cell? ⟨w.heap.size + 1, 0, none⟩ = some b := by
 constructor
 ·rw [cell_alloc_lt _ _ _ _ (by simp), cell_new_row]; rfl
 ·have := cell_new_row (w.alloc (.cells #[a] t)) #[b] t 0
  rw [World.size_alloc] at this
  rw [this]; rfl
set_option maxHeartbeats 1000000 in
theorem containsKinds_any (ga gb : Nat) (ad : Option Addr) (m c : Nat) (lo hi : Int) (st : Nat → Nd) (sh : Nat → Nat) (w : World) (hm : m ≤ 5000) (hs : StA w ad m st sh) (ha : w.cell? ⟨ga, 0, none⟩ = some (.int .i64 lo)) (hb : w.cell? ⟨gb, 0, none⟩ = some (.int .i64 hi)) (la : ga < w.heap.size) (lb : gb < w.heap.size) :
  Calls Tryz.prog 90 #[.slice ad m c, .func (.func 91) #[] #[.pointer (some ⟨ga, 0, none⟩), .pointer (some ⟨gb, 0, none⟩)]] w fun e w' => Says e (∃ i, i < m ∧ ((st i).kind < lo ∨ hi < (st i).kind)) ∧ Below w.heap.size w w' := by
 have HS := hid hs
 have HA0 := hid ha
 have HB0 := hid hb
 clear hs ha hb
 go_enter Tryz.func90, Tryz.ntmps90
 go_wp2_with (go_at_call 92; refine (indexKinds_all ga gb ad m c lo hi st sh _ hm HS.out HA0.out HB0.out la lb).mono ?_; rintro e w' ⟨⟨i, hi1, rfl, hP, hno⟩ | ⟨rfl, hno⟩, hb2⟩)
 ·have HP := hid hP
  clear hP
  go_ret
  exact ⟨says_t ⟨i, hi1, HP.out⟩, hb2⟩
 ·go_ret
  exact ⟨says_f (fun ⟨i, h1, h2⟩ => hno i h1 h2), hb2⟩
set_option maxHeartbeats 1000000 in
theorem areKinds_any (ad : Option Addr) (m c : Nat) (lo hi : Int) (st : Nat → Nd) (sh : Nat → Nat) (w : World) (hm : m ≤ 5000) (hs : StA w ad m st sh) :
  Calls Tryz.prog 62 #[.slice ad m c, .int .i64 lo, .int .i64 hi] w fun e w' => Says e (∀ i, i < m → lo ≤ (st i).kind ∧ (st i).kind ≤ hi) ∧ Below w.heap.size w w' := by
 have HB2 := hid (((Below.refl w.heap.size w).alloc (Nat.le_refl _) (.cells #[.int .i64 lo] 3)).alloc (by simp) (.cells #[.int .i64 hi] 3))
 have HS := hid (hs.below HB2.out)
 have HTC := hid (two_cells w (.int .i64 lo) (.int .i64 hi) 3)
 clear hs
 go_enter Tryz.func62, Tryz.ntmps62
 go_wp2_with (go_at_call 90; refine (containsKinds_any _ _ ad m c lo hi st sh _ hm HS.out HTC.out.1 HTC.out.2 (by simp; omega) (by simp)).mono ?_; rintro e w' ⟨hs, hb2⟩; have HB3 := hid hb2; clear hb2; rcases hs.get with ⟨rfl, hP⟩ | ⟨rfl, hP⟩; all_goals (have HP := hid hP; clear hP hs))
 all_goals go_ret
 ·exact ⟨says_f (fun h => by obtain ⟨i, h1, h2⟩ := HP.out; have := h i h1; omega), HB2.out.trans (HB3.out.mono (by simp; omega))⟩
 ·exact ⟨says_t (fun i h1 => by by_cases c1 : (st i).kind < lo; exact absurd ⟨i, h1, .inl c1⟩ HP.out; by_cases c2 : hi < (st i).kind; exact absurd ⟨i, h1, .inr c2⟩ HP.out; omega), HB2.out.trans (HB3.out.mono (by simp; omega))⟩
set_option maxHeartbeats 1000000 in
theorem areE_any (ad : Option Addr) (m c : Nat) (lo hi : Int) (st : Nat → Nd) (sh : Nat → Nat) (w : World) (hm : m ≤ 5000) (hs : StA w ad m st sh) :
  Calls Tryz.prog 61 #[.slice ad m c, .int .i64 lo, .int .i64 hi] w fun e w' => Says e (lo ≤ m ∧ m ≤ hi ∧ AllE m st) ∧ Below w.heap.size w w' := by
 have HS := hid hs
 clear hs
 by_cases h1 : lo ≤ m
 ·by_cases h2 : (m : Int) ≤ hi
  ·go_enter Tryz.func61, Tryz.ntmps61
   go_wp2_with (go_at_call 62; refine (areKinds_any ad m c _ _ st sh _ hm HS.out).mono ?_; rintro e w' ⟨hs, hb2⟩; have HB3 := hid hb2; clear hb2; rcases hs.get with ⟨rfl, hP⟩ | ⟨rfl, hP⟩; all_goals (have HP := hid hP; clear hP hs))
   all_goals go_ret
   ·exact ⟨says_t ⟨h1, h2, fun i hi => by have := HP.out i hi; unfold isE inR; simp; omega⟩, HB3.out⟩
   ·exact ⟨says_f (fun h => HP.out fun i hi => by have := h.2.2 i hi; unfold isE inR at this; simp at this; omega), HB3.out⟩
  ·go_enter Tryz.func61, Tryz.ntmps61
   go_wp2
   go_ret
   exact ⟨says_f (fun h => by omega), Below.refl _ _⟩
 ·go_enter Tryz.func61, Tryz.ntmps61
  go_wp2
  go_ret
  exact ⟨says_f (fun h => by omega), Below.refl _ _⟩
theorem run_full (s : ByteArray) : run letB s.data.toList = s.size ↔ ∀ i (h : i < s.size), letB s[i] = true := by
 constructor
 ·intro h i hi
  exact run_all letB s.data.toList s.size (by omega) i hi (by rw [len_size]; exact hi)
 ·intro h
  by_cases hl : run letB s.data.toList = s.size
  ·exact hl
  ·exfalso
   have h1 := run_le letB s.data.toList
   rw [len_size] at h1
   have h2 : run letB s.data.toList < s.data.toList.length := by rw [len_size]; omega
   have := run_step letB s.data.toList _ (Nat.le_refl _) h2 (h _ (by omega))
   omega
theorem name_iff (s : ByteArray) (h0 : 0 < s.size) : NameOk s ↔ s.size ≤ 30 ∧ run letB s.data.toList = s.size ∧ dig (s[0].toNat : Int) = false ∧ ¬ s.data.toList ∈ words := by
 rw [run_full]
 constructor
 ·rintro ⟨_, h1, h2, h3, h4⟩
  refine ⟨h1, h4, ?_, h3⟩
  unfold begB beg at h2
  unfold dig
  simp at h2 ⊢
  omega
 ·rintro ⟨h1, h2, h3, h4⟩
  refine ⟨h0, h1, ?_, h4, h2⟩
  have := h2 0 h0
  unfold letB let_ at this
  rw [h3] at this
  simpa [begB] using this
set_option maxHeartbeats 1000000 in
theorem isName_at (s : ByteArray) (r : Nat) (w : World) (hs : s.size ≤ maxLen) (hr : w.heap[r]? = some (.map (wordE 17) 17)) :
  Calls Tryz.prog 59 #[.string s, .map (some r)] w fun e w' => Says e (NameOk s) ∧ Below w.heap.size w w' := by
 have hml := hs
 unfold maxLen at hs
 by_cases h0 : s.size = 0
 ·have HN : Hid (¬ NameOk s) := fun ⟨h, _⟩ => by omega
  have he : s = ⟨#[]⟩ := ByteArray.ext (Array.eq_empty_of_size_eq_zero h0)
  subst he
  go_enter Tryz.func59, Tryz.ntmps59
  go_wp2
  go_ret
  exact ⟨says_f HN.out, Below.refl _ _⟩
 ·have hp : 0 < s.size := by omega
  have HI := hid (name_iff s hp)
  have hq := notEmpty s hp
  by_cases h30 : s.size ≤ 30
  ·have hrl := run_le letB s.data.toList
   rw [len_size] at hrl
   obtain ⟨k, hk⟩ : ∃ k, run letB s.data.toList = k := ⟨_, rfl⟩
   rw [hk] at hrl
   have HK := hid hk
   clear hk
   by_cases hks : k = s.size
   ·subst hks
    cases hd : dig (s[0].toNat : Int)
    ·by_cases hm : s.data.toList ∈ words
     ·have hlk := lookup_word w r hr s
      rw [if_pos hm, decide_eq_true hm] at hlk
      have HM := hid hm
      clear hm hr
      go_enter Tryz.func59, Tryz.ntmps59
      go_wp2_with (first
       | (go_at_call 87; refine (nameSize_any s _ hml).mono ?_; rintro e w' ⟨rfl, hw⟩; have hw2 := hw.symm; clear hw; subst hw2; rw [HK.out])
       | (go_at_call 88; refine (isDigit_any _ _).mono ?_; rintro e w' ⟨rfl, hw⟩; have hw2 := hw.symm; clear hw; subst hw2; rw [hd]))
      all_goals go_ret
      all_goals exact ⟨says_f (fun h => (HI.out.1 h).2.2.2 HM.out), Below.refl _ _⟩
     ·have hlk := lookup_word w r hr s
      rw [if_neg hm, decide_eq_false hm] at hlk
      have HM := hid hm
      clear hm hr
      go_enter Tryz.func59, Tryz.ntmps59
      go_wp2_with (first
       | (go_at_call 87; refine (nameSize_any s _ hml).mono ?_; rintro e w' ⟨rfl, hw⟩; have hw2 := hw.symm; clear hw; subst hw2; rw [HK.out])
       | (go_at_call 88; refine (isDigit_any _ _).mono ?_; rintro e w' ⟨rfl, hw⟩; have hw2 := hw.symm; clear hw; subst hw2; rw [hd]))
      all_goals go_ret
      all_goals exact ⟨says_t (HI.out.2 ⟨h30, HK.out, hd, HM.out⟩), Below.refl _ _⟩
    ·have HF : Hid (¬ NameOk s) := fun h => by have := (HI.out.1 h).2.2.1; rw [hd] at this; cases this
     go_enter Tryz.func59, Tryz.ntmps59
     go_wp2_with (first
      | (go_at_call 87; refine (nameSize_any s _ hml).mono ?_; rintro e w' ⟨rfl, hw⟩; have hw2 := hw.symm; clear hw; subst hw2; rw [HK.out])
      | (go_at_call 88; refine (isDigit_any _ _).mono ?_; rintro e w' ⟨rfl, hw⟩; have hw2 := hw.symm; clear hw; subst hw2; rw [hd]))
     all_goals go_ret
     all_goals exact ⟨says_f HF.out, Below.refl _ _⟩
   ·have HF : Hid (¬ NameOk s) := fun h => by have := (HI.out.1 h).2.1; rw [HK.out] at this; exact hks this
    have hlt : k < s.size := by omega
    go_enter Tryz.func59, Tryz.ntmps59
    go_wp2_with (go_at_call 87; refine (nameSize_any s _ hml).mono ?_; rintro e w' ⟨rfl, hw⟩; have hw2 := hw.symm; clear hw; subst hw2; rw [HK.out])
    all_goals go_ret
    all_goals exact ⟨says_f HF.out, Below.refl _ _⟩
  ·have HF : Hid (¬ NameOk s) := fun h => h30 (HI.out.1 h).1
   go_enter Tryz.func59, Tryz.ntmps59
   go_wp2
   go_ret
   exact ⟨says_f HF.out, Below.refl _ _⟩
set_option maxHeartbeats 1000000 in
theorem isPackage_any (s : ByteArray) (w : World) (hs : s.size ≤ maxLen) :
  Calls Tryz.prog 60 #[.string s] w fun e w' => Says e (PkgOk s) ∧ Below w.heap.size w w' := by
 unfold maxLen at hs
 by_cases h0 : s.size = 0
 ·have HN : Hid (¬ PkgOk s) := fun h => by have := h.1; omega
  have he : s = ⟨#[]⟩ := ByteArray.ext (Array.eq_empty_of_size_eq_zero h0)
  subst he
  go_enter Tryz.func60, Tryz.ntmps60
  go_wp2
  go_ret
  exact ⟨says_f HN.out, Below.refl _ _⟩
 ·have hp : 0 < s.size := by omega
  have hq := notEmpty s hp
  by_cases h30 : s.size ≤ 30
  ·go_enter Tryz.func60, Tryz.ntmps60
   go_wp2
   go_loop [13] (fun i => ∃ k : Nat, k ≤ s.size ∧ i = .int .i64 k ∧ ∀ j (h : j < s.size), j < k → pkgB s[j] = true) (fun i => s.size - (intOf i).toNat)
   case atStart => exact ⟨0, Nat.zero_le _, rfl, fun j h h0 => absurd h0 (Nat.not_lt_zero _)⟩
   case round =>
    obtain ⟨k, hk, rfl, hr⟩ := hrel
    have HR := hid hr
    clear hr
    by_cases hlt : k < s.size
    ·have NX0 : Hid (pkg_ (s[k].toNat : Int) = true → ∀ j (h : j < s.size), j < k + 1 → pkgB s[j] = true) := fun hp j h hj => by
      rcases Nat.lt_or_eq_of_le (Nat.lt_succ_iff.1 hj) with h' | h'
      ·exact HR.out j h h'
      ·subst h'; exact hp
     have HP : Hid (pkg_ (s[k].toNat : Int) = (let_ (s[k].toNat : Int) || (s[k].toNat : Int) == 45 || (s[k].toNat : Int) == 46 || (s[k].toNat : Int) == 47)) := by
      show _ = _
      unfold pkg_ let_ beg
      generalize dig (s[k].toNat : Int) = d
      cases d <;> simp
     have NE : Hid (pkg_ (s[k].toNat : Int) = false → ¬ PkgOk s) := fun hp h => by have := h.2.2 k hlt; unfold pkgB at this; rw [hp] at this; cases this
     cases hl : let_ (s[k].toNat : Int)
     ·by_cases b1 : (s[k].toNat : Int) = 45
      ·have NX := hid (NX0.out (by rw [HP.out, b1]; simp))
       have c1 : ((s[k].toNat : Int) != 45) = false := by rw [b1]; rfl
       clear b1
       go_wp2_with (go_at_call 89; refine (isName_any _ _).mono ?_; rintro e w' ⟨rfl, rfl⟩)
       go_round
       case rel => exact ⟨k + 1, by omega, by go_num, NX.out⟩
       case measure => simp [intOf]; omega
      ·have c1 : ((s[k].toNat : Int) != 45) = true := by rw [bne_iff_ne]; exact b1
       by_cases b2 : (s[k].toNat : Int) = 46
       ·have NX := hid (NX0.out (by rw [HP.out, b2]; simp))
        have c2 : ((s[k].toNat : Int) != 46) = false := by rw [b2]; rfl
        clear b2 b1
        go_wp2_with (go_at_call 89; refine (isName_any _ _).mono ?_; rintro e w' ⟨rfl, rfl⟩)
        go_round
        case rel => exact ⟨k + 1, by omega, by go_num, NX.out⟩
        case measure => simp [intOf]; omega
       ·have c2 : ((s[k].toNat : Int) != 46) = true := by rw [bne_iff_ne]; exact b2
        by_cases b3 : (s[k].toNat : Int) = 47
        ·have NX := hid (NX0.out (by rw [HP.out, b3]; simp))
         have c3 : ((s[k].toNat : Int) != 47) = false := by rw [b3]; rfl
         clear b3 b2 b1
         go_wp2_with (go_at_call 89; refine (isName_any _ _).mono ?_; rintro e w' ⟨rfl, rfl⟩)
         go_round
         case rel => exact ⟨k + 1, by omega, by go_num, NX.out⟩
         case measure => simp [intOf]; omega
        ·have c3 : ((s[k].toNat : Int) != 47) = true := by rw [bne_iff_ne]; exact b3
         have HE := hid (NE.out (by rw [HP.out, hl]; simp; omega))
         clear b1 b2 b3
         go_wp2_with (go_at_call 89; refine (isName_any _ _).mono ?_; rintro e w' ⟨rfl, rfl⟩)
         go_ret
         exact ⟨says_f HE.out, Below.refl _ _⟩
     ·have NX := hid (NX0.out (by rw [HP.out, hl]; simp))
      go_wp2_with (go_at_call 89; refine (isName_any _ _).mono ?_; rintro e w' ⟨rfl, rfl⟩)
      go_round
      case rel => exact ⟨k + 1, by omega, by go_num, NX.out⟩
      case measure => simp [intOf]; omega
    ·go_wp2
     go_ret
     exact ⟨says_t ⟨hp, h30, fun i h => HR.out i h (by omega)⟩, Below.refl _ _⟩
  ·have HN : Hid (¬ PkgOk s) := fun h => h30 h.2.1
   go_enter Tryz.func60, Tryz.ntmps60
   go_wp2
   go_ret
   exact ⟨says_f HN.out, Below.refl _ _⟩
theorem set_atC {W : World} {g i : Nat} {cur : Array Value} {t : TypeId} (v : Value) (h : W.heap[g]? = some (.cells cur t (0, 0))) : (W.setCell ⟨g, i, none⟩ v).heap[g]? = some (.cells (cur.setIfInBounds i v) t (0, 0)) := by
 unfold World.setCell
 simp only [Array.getElem?_modify, h]
 simp
end Go.Proofs.YtbakebdfmdepnaaGreatDoor
namespace Go.Proofs.YtbakebdfmdepnaaGreatDoor
open Go.RowKit Go.Maps Go.WideMaps
set_option maxRecDepth 20000
def keyL (t : ByteArray) : Lit := .string t.data.toList
theorem keyL_ne {a b : ByteArray} (h : ¬ a = b) : keyL a ≠ keyL b := fun e => h (ByteArray.ext (Array.toList_inj.1 (by injection e)))
def TxInv (D : DataW Unit) (j : Nat) (st : Nat → Nd) : Prop := (∀ t, Maps.has D (keyL t) = true ↔ ∃ i, i < j ∧ (st i).text = t) ∧ Maps.size D ≤ j ∧ (Maps.size D = j ↔ Apart j st)
theorem TxInv_zero (st : Nat → Nd) : TxInv (.map []) 0 st :=
 ⟨fun t => ⟨fun h => by simp [Maps.has_eq] at h, fun ⟨i, h, _⟩ => absurd h (Nat.not_lt_zero _)⟩, Nat.le_refl _, fun _ i h => absurd h (Nat.not_lt_zero _), fun _ => rfl⟩
theorem TxInv_succ {D : DataW Unit} {j : Nat} {st : Nat → Nd} (hT : Tidy D) (h : TxInv D j st) : TxInv (D.put (keyL (st j).text) (.agg [])) (j + 1) st := by
 obtain ⟨h1, h2, h3⟩ := h
 have hs := Maps.size_put (k := keyL (st j).text) hT (.agg [])
 refine ⟨fun t => ?_, ?_, ?_⟩
 ·by_cases e : (st j).text = t
  ·subst e
   exact ⟨fun _ => ⟨j, by omega, rfl⟩, fun _ => Maps.has_put_same hT.isMap (by simp [keyL, WideAt.IsKeyLit]) _⟩
  ·rw [Maps.has_put_other (keyL_ne fun h => e h.symm), h1]
   constructor
   ·rintro ⟨i, hi, he⟩; exact ⟨i, by omega, he⟩
   ·rintro ⟨i, hi, he⟩
    rcases Nat.lt_or_eq_of_le (Nat.lt_succ_iff.1 hi) with h | h
    ·exact ⟨i, h, he⟩
    ·subst h; exact absurd he e
 ·rw [hs]; split <;> omega
 ·rw [hs]
  by_cases hh : Maps.has D (keyL (st j).text) = true
  ·rw [if_pos hh]
   constructor
   ·intro e; omega
   ·intro ha
    obtain ⟨i, hi, he⟩ := (h1 _).1 hh
    exact absurd he (ha j (by omega) i hi)
  ·rw [if_neg hh]
   constructor
   ·intro e i hi k hk
    rcases Nat.lt_or_eq_of_le (Nat.lt_succ_iff.1 hi) with h | h
    ·exact h3.1 (by omega) i h k hk
    ·subst h
     exact fun e => hh ((h1 _).2 ⟨k, hk, e⟩)
   ·intro ha
    rw [h3.2 (fun i hi k hk => ha i (by omega) k hk)]
set_option maxHeartbeats 1000000 in
theorem textsDiffer_any (g o m c : Nat) (st : Nat → Nd) (sh : Nat → Nat) (w : World) (hm : m ≤ 5000) (hx : ∀ i, i < m → (st i).text.size ≤ maxLen) (hg : g < w.heap.size) (hs : StandAt w g o m st sh) :
  Calls Tryz.prog 63 #[.slice (some ⟨g, o, none⟩) m c] w fun e w' => Says e (Apart m st) ∧ Below w.heap.size w w' := by
 have HS := hid hs
 have HX := hid hx
 clear hs hx
 have hmm := @run_makeMap Tryz.prog
 go_enter Tryz.func63, Tryz.ntmps63
 go_wp2
 go_loopw [9] (fun i wr => ∃ (j : Nat) (D : DataW Unit), j ≤ m ∧ i = .int .i64 j ∧ wr.ownsMap Tryz.prog 9 unitElem w.heap.size j D ∧ TxInv D j st ∧ Below w.heap.size w wr) (fun i _ => m - (intOf i).toNat)
 case atStart => exact ⟨0, .map [], Nat.zero_le _, rfl, World.ownsMap_made _ _ _ _, TxInv_zero st, (Below.refl _ _).alloc (Nat.le_refl _) _⟩
 case round =>
  obtain ⟨j, D, hj, rfl, hown, hinv, hbw⟩ := hrel
  have HBW := hid hbw
  have HINV := hid hinv
  have HOWN := hid hown
  clear hbw hinv hown
  by_cases hlt : j < m
  ·obtain ⟨a0, a1, a2, a3, a4, a5⟩ := (HS.out.below HBW.out hg) j hlt
   have hT := HOWN.out.tidy (string_keyed Tryz.underlying9)
   have HN := hid (TxInv_succ hT HINV.out)
   obtain ⟨w1, hrun, hown1, hgrow1⟩ := (HOWN.out.alloc (.cells #[.int .i64 (st j).kind, .int .i64 (st j).op, .int .i64 (st j).n, .string (st j).text, .int .i64 (st j).kids, .int .i64 (sh j)] 80)).update (string_keyed Tryz.underlying9) Tryz.underlying133 (by unfold maxLen; omega) (keyOf_string_mk Tryz.underlying9 (HX.out j hlt)) unitElem_mk
   have HO1 := hid hown1
   have HB1 := hid ((HBW.out.alloc HBW.out.size _).grown hgrow1 (by have := HBW.out.size; simp; omega) (fun k e => by injection e with e; omega))
   clear hown1 hgrow1 hT
   go_wp2
   go_roundw
   case rel => exact ⟨j + 1, _, by omega, by go_num, HO1.out, HN.out, HB1.out⟩
   case measure => simp [intOf]; omega
  ·obtain rfl : j = m := by omega
   have hlen := HOWN.out.len Tryz.underlying133
   by_cases hq : Maps.size D = j
   ·have HQ := hid (HINV.out.2.2.1 hq)
    have hq' : ((Maps.size D : Int) == (j : Int)) = true := by rw [beq_iff_eq]; omega
    clear hq
    go_wp2
    go_ret
    exact ⟨says_t HQ.out, HBW.out⟩
   ·have HQ := hid (fun h => hq (HINV.out.2.2.2 h))
    have hq' : ((Maps.size D : Int) == (j : Int)) = false := by rw [beq_eq_false_iff_ne]; omega
    clear hq
    go_wp2
    go_ret
    exact ⟨says_f HQ.out, HBW.out⟩
set_option maxHeartbeats 1000000 in
theorem textsDiffer_none (ad : Option Addr) (c : Nat) (w : World) :
  Calls Tryz.prog 63 #[.slice ad 0 c] w fun e w' => e = .returned (.bool true) ∧ Below w.heap.size w w' := by
 have hmm := @run_makeMap Tryz.prog
 go_enter Tryz.func63, Tryz.ntmps63
 go_wp2
 go_loopw [9] (fun i wr => i = .int .i64 0 ∧ wr = w.alloc (.map #[] 0)) (fun _ _ => 0)
 case atStart => exact ⟨rfl, rfl⟩
 case round =>
  obtain ⟨rfl, rfl⟩ := hrel
  have hlen := (World.ownsMap_made (H := Unit) w Tryz.prog 9 unitElem).len Tryz.underlying133
  rw [Maps.size_eq] at hlen
  go_wp2
  go_ret
  exact ⟨rfl, (Below.refl _ _).alloc (Nat.le_refl _) _⟩
theorem textsDiffer_all (ad : Option Addr) (m c : Nat) (st : Nat → Nd) (sh : Nat → Nat) (w : World) (hm : m ≤ 5000) (hx : ∀ i, i < m → (st i).text.size ≤ maxLen) (hs : StA w ad m st sh) :
  Calls Tryz.prog 63 #[.slice ad m c] w fun e w' => Says e (Apart m st) ∧ Below w.heap.size w w' := by
 rcases hs with rfl | ⟨g, o, rfl, h1, h2⟩
 ·refine (textsDiffer_none ad c w).mono ?_
  rintro e w' ⟨rfl, hb⟩
  exact ⟨says_t (fun i h => absurd h (Nat.not_lt_zero _)), hb⟩
 ·exact textsDiffer_any g o m c st sh w hm hx h1 h2
end Go.Proofs.YtbakebdfmdepnaaGreatDoor
namespace Go.Proofs.YtbakebdfmdepnaaGreatDoor
open Go.RowKit
set_option maxRecDepth 20000
theorem StandAt.front {W : World} {g o m f : Nat} {st : Nat → Nd} {sh : Nat → Nat} (h : StandAt W g o m st sh) (hf : f ≤ m) : StandAt W g o f st sh := fun i hi => h i (by omega)
theorem StandAt.back {W : World} {g o m f : Nat} {st : Nat → Nd} {sh : Nat → Nat} (h : StandAt W g o m st sh) : StandAt W g (o + f * 6) (m - f) (fun i => st (f + i)) (fun i => sh (f + i)) := fun i hi => by
 have := h (f + i) (by omega)
 rw [show o + (f + i) * 6 = o + f * 6 + i * 6 by omega] at this
 exact this
set_option maxHeartbeats 1000000 in
theorem fnFits_any (g o m c : Nat) (st : Nat → Nd) (sh : Nat → Nat) (w : World) (hm : m ≤ 5000) (h0 : 0 < m) (hcm : m ≤ c) (_hc : c ≤ maxLen) (hg : g < w.heap.size) (hs : StandAt w g o m st sh) :
  Calls Tryz.prog 65 #[.slice (some ⟨g, o, none⟩) m c] w fun e w' => Says e (1 ≤ m ∧ m ≤ 9 ∧ (∀ i, i + 1 < m → (st i).kind = 19) ∧ isE (st (m - 1)).kind = true) ∧ Below w.heap.size w w' := by
 obtain ⟨l, rfl⟩ : ∃ l, m = l + 1 := ⟨m - 1, by omega⟩
 have HF : Hid (StA w (some ⟨g, o, none⟩) l st sh) := .inr ⟨g, o, rfl, hg, hs.front (by omega)⟩
 have HK : Hid (∀ w', Below w.heap.size w w' → StA w' (some ⟨g, o + l * 6, none⟩) 1 (fun i => st (l + i)) (fun i => sh (l + i))) := fun w' hb => by
  have := hs.back (f := l)
  rw [Nat.add_sub_cancel_left] at this
  exact .inr ⟨g, _, rfl, Nat.lt_of_lt_of_le hg hb.size, this.below hb hg⟩
 clear hs
 by_cases h8 : l ≤ 8
 ·go_enter Tryz.func65, Tryz.ntmps65
  go_wp2_with (first
   | (go_at_call 62; refine (areKinds_any (some ⟨g, o, none⟩) l c _ _ st sh _ (by omega) HF.out).mono ?_; rintro e w1 ⟨hs1, hb1⟩; have HB1 := hid hb1; clear hb1; rcases hs1.get with ⟨rfl, hP1⟩ | ⟨rfl, hP1⟩; all_goals (have HP1 := hid hP1; clear hP1 hs1))
   | (go_at_call 61; refine (areE_any (some ⟨g, o + l * 6, none⟩) 1 _ _ _ (fun i => st (l + i)) (fun i => sh (l + i)) _ (by omega) (HK.out _ HB1.out)).mono ?_; rintro e w2 ⟨hs2, hb2⟩; have HB2 := hid hb2; clear hb2; rcases hs2.get with ⟨rfl, hP2⟩ | ⟨rfl, hP2⟩; all_goals (have HP2 := hid hP2; clear hP2 hs2)))
  all_goals go_ret
  ·exact ⟨says_t ⟨by omega, by omega, fun i hi => by have := HP1.out i (by omega); omega, HP2.out.2.2 0 (by omega)⟩, HB1.out.trans (HB2.out.mono HB1.out.size)⟩
  ·refine ⟨says_f (fun h => HP2.out ⟨by omega, by omega, fun i hi => ?_⟩), HB1.out.trans (HB2.out.mono HB1.out.size)⟩
   obtain rfl : i = 0 := by omega
   exact h.2.2.2
  ·exact ⟨says_f (fun h => HP1.out fun i hi => by have := h.2.2.1 i (by omega); omega), HB1.out⟩
 ·go_enter Tryz.func65, Tryz.ntmps65
  go_wp2
  go_ret
  exact ⟨says_f (fun h => by omega), Below.refl _ _⟩
set_option maxHeartbeats 1000000 in
theorem fnFits_none (ad : Option Addr) (c : Nat) (w : World) :
  Calls Tryz.prog 65 #[.slice ad 0 c] w fun e w' => e = .returned (.bool false) ∧ w' = w := by
 go_enter Tryz.func65, Tryz.ntmps65
 go_wp2
 go_ret
 exact ⟨rfl, rfl⟩
end Go.Proofs.YtbakebdfmdepnaaGreatDoor
