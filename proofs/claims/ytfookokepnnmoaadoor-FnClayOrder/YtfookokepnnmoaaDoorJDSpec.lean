import Derived.Test.YtfookokepnnmoaaDoorJSOk
import Derived.Test.YtfookokepnnmoaaDoorJUTo
import Derived.Test.YtfookokepnnmoaaDoorJNSv
import Derived.Test.YtfookokepnnmoaaDoorJDText
import Derived.Test.YtfookokepnnmoaaDoorJSKids
namespace Go.Proofs.YtfookokepnnmoaaDoor
open Go.RowKit
set_option maxRecDepth 20000
set_option maxHeartbeats 1000000 in
theorem l5One_any (x : At) (w : World) :
    Calls Tryd.prog 59 #[.agg #[.int .i64 x.kind, .int .i64 x.n, .string x.text, .int .i64 x.kids]] w fun e w' => ∃ g, e = .returned (.agg #[.slice (some ⟨g, 0, none⟩) 1 1]) ∧ w.heap.size ≤ g ∧ OwnA w' g 1 [x] ∧ Below w.heap.size w w' := by
  go_enter Tryd.func59, Tryd.ntmps59
  go_wp2
  have h0 : ∀ i, ((((w.alloc (.cells #[.int .i64 x.kind, .int .i64 x.n, .string x.text, .int .i64 x.kids] 51)).alloc (.cells #[.slice (some ⟨w.heap.size + 1 + 1, 0, none⟩) 1 1] 25)).alloc (.cells #[.int .i64 x.kind, .int .i64 x.n, .string x.text, .int .i64 x.kids] 51))).cell? ⟨w.heap.size + 1 + 1, i, none⟩ = #[.int .i64 x.kind, .int .i64 x.n, .string x.text, .int .i64 x.kids][i]? := fun i => by
    have h := cell_new_row ((w.alloc (.cells #[.int .i64 x.kind, .int .i64 x.n, .string x.text, .int .i64 x.kids] 51)).alloc (.cells #[.slice (some ⟨w.heap.size + 1 + 1, 0, none⟩) 1 1] 25)) #[.int .i64 x.kind, .int .i64 x.n, .string x.text, .int .i64 x.kids] 51 i
    simp only [World.size_alloc] at h
    exact h
  refine bodyPost_ret (v := .agg #[.slice (some ⟨w.heap.size + 1 + 1, 0, none⟩) 1 1]) (by simp [results, Tryd.results59, go_sem]) rfl ⟨_, rfl, by omega, ⟨?_, ?_⟩, (below_two' w _ _).alloc (by simp; omega) _⟩
  · have h := heap_alloc_new ((w.alloc (.cells #[.int .i64 x.kind, .int .i64 x.n, .string x.text, .int .i64 x.kids] 51)).alloc (.cells #[.slice (some ⟨w.heap.size + 1 + 1, 0, none⟩) 1 1] 25)) (.cells #[.int .i64 x.kind, .int .i64 x.n, .string x.text, .int .i64 x.kids] 51)
    simp only [World.size_alloc] at h
    exact ⟨_, h, by simp⟩
  intro i y hy
  obtain rfl : i = 0 := by have := (List.getElem?_eq_some_iff.1 hy).1; simp at this; omega
  simp at hy
  subst hy
  exact ⟨h0 0, h0 1, h0 2, h0 3⟩
theorem fKind (k n d : Int) (s : ByteArray) (w : World) : (Instr.field 51 (.agg #[.int .i64 k, .int .i64 n, .string s, .int .i64 d]) 0).run Tryd.prog w = .ok (.int .i64 k) w := by kernel_rfl
theorem fNum (k n d : Int) (s : ByteArray) (w : World) : (Instr.field 51 (.agg #[.int .i64 k, .int .i64 n, .string s, .int .i64 d]) 1).run Tryd.prog w = .ok (.int .i64 n) w := by kernel_rfl
set_option maxHeartbeats 1000000 in
theorem l6Kind_any (b o N cap : Nat) (x : At) (w : World) (hN0 : 1 ≤ N) (hN : N ≤ 1048576) (hb : b < w.heap.size) (hx : FourAt w b (o + (N - 1) * 4) x) :
    Calls Tryd.prog 17 #[.agg #[.slice (some ⟨b, o, none⟩) N cap]] w fun e w' => e = .returned (.int .i64 x.kind) ∧ Below w.heap.size w w' := by
  have HB := hid ((Below.refl w.heap.size w).alloc (Nat.le_refl _) (.cells #[.slice (some ⟨b, o, none⟩) N cap] 25))
  have HC := hid (l5Last_any b o N cap x (w.alloc (.cells #[.slice (some ⟨b, o, none⟩) N cap] 25)) hN0 hN (by simp; omega) (hx.below HB.out hb))
  have f1 := fKind x.kind x.n x.kids x.text
  clear hx
  go_enter Tryd.func17, Tryd.ntmps17
  go_wp2_with fail
  refine HC.out.mono ?_
  rintro e w1 ⟨rfl, hb1⟩
  have HB1 := hid (HB.out.trans (hb1.mono (by simp)))
  clear hb1
  simp only [atV]
  go_wp2
  go_ret
  exact ⟨rfl, HB1.out⟩
theorem one_row {w w1 : World} {u : Value} {t : TypeId} (h : Below (w.alloc (.cells #[u] t)).heap.size (w.alloc (.cells #[u] t)) w1) : w1.cell? ⟨w.heap.size, 0, none⟩ = some u ∧ w1.frozen? ⟨w.heap.size, 0, none⟩ = false := by
  have e1 : w1.heap[w.heap.size]? = some (.cells #[u] t) := by
    rw [h.block _ (by simp)]
    exact heap_alloc_new w (.cells #[u] t)
  refine ⟨?_, ?_⟩
  · unfold World.cell?; rw [e1]; rfl
  · unfold World.frozen?; rw [e1]; rfl
/-- A value of one atom, made anew. -/
def OneMade (x : At) (w w' : World) (e : Ending) : Prop := ∃ g, e = .returned (.agg #[.slice (some ⟨g, 0, none⟩) 1 1]) ∧ w.heap.size ≤ g ∧ OwnA w' g 1 [x] ∧ Below w.heap.size w w'
set_option maxHeartbeats 1000000 in
theorem l5Int_any (n : Int) (w : World) : Calls Tryd.prog 45 #[.int .i64 n] w fun e w' => OneMade ⟨3, n, ⟨#[]⟩, 0⟩ w w' e := by
  have HC := hid (l5One_any ⟨3, n, ⟨#[]⟩, 0⟩ (w.alloc (.cells #[.slice none 0 0] 25)))
  go_enter Tryd.func45, Tryd.ntmps45
  go_wp2_with fail
  refine HC.out.mono ?_
  rintro e w1 ⟨g, rfl, hg, ha, hb1⟩
  obtain ⟨t1, t2⟩ := one_row hb1
  simp only [World.size_alloc] at hg
  have HA := hid ha
  have HB := hid (((Below.refl w.heap.size w).alloc (Nat.le_refl _) _).trans (hb1.mono (by simp)))
  clear ha hb1
  go_wp2
  exact bodyPost_ret (v := .agg #[.slice (some ⟨g, 0, none⟩) 1 1]) (by simp [results, Tryd.results45, go_sem, t1]) rfl ⟨g, rfl, by omega, HA.out.keep (Below.heap_setCell _ _ _ _ (by show _ ≠ _; simp only; omega)), below_set HB.out _ _ (Nat.le_refl _) _⟩
set_option maxHeartbeats 1000000 in
theorem l5Bool_any (b : Bool) (w : World) : Calls Tryd.prog 47 #[.bool b] w fun e w' => OneMade ⟨2, if b = true then 1 else 0, ⟨#[]⟩, 0⟩ w w' e := by
  cases b
  · have HC := hid (l5One_any ⟨2, 0, ⟨#[]⟩, 0⟩ (w.alloc (.cells #[.slice none 0 0] 25)))
    go_enter Tryd.func47, Tryd.ntmps47
    go_wp2_with fail
    refine HC.out.mono ?_
    rintro e w1 ⟨g, rfl, hg, ha, hb1⟩
    obtain ⟨t1, t2⟩ := one_row hb1
    simp only [World.size_alloc] at hg
    have HA := hid ha
    have HB := hid (((Below.refl w.heap.size w).alloc (Nat.le_refl _) _).trans (hb1.mono (by simp)))
    clear ha hb1
    go_wp2
    exact bodyPost_ret (v := .agg #[.slice (some ⟨g, 0, none⟩) 1 1]) (by simp [results, Tryd.results47, go_sem, t1]) rfl ⟨g, rfl, by omega, HA.out.keep (Below.heap_setCell _ _ _ _ (by show _ ≠ _; simp only; omega)), below_set HB.out _ _ (Nat.le_refl _) _⟩
  · have HC := hid (l5One_any ⟨2, 1, ⟨#[]⟩, 0⟩ (w.alloc (.cells #[.slice none 0 0] 25)))
    go_enter Tryd.func47, Tryd.ntmps47
    go_wp2_with fail
    refine HC.out.mono ?_
    rintro e w1 ⟨g, rfl, hg, ha, hb1⟩
    obtain ⟨t1, t2⟩ := one_row hb1
    simp only [World.size_alloc] at hg
    have HA := hid ha
    have HB := hid (((Below.refl w.heap.size w).alloc (Nat.le_refl _) _).trans (hb1.mono (by simp)))
    clear ha hb1
    go_wp2
    exact bodyPost_ret (v := .agg #[.slice (some ⟨g, 0, none⟩) 1 1]) (by simp [results, Tryd.results47, go_sem, t1]) rfl ⟨g, rfl, by omega, HA.out.keep (Below.heap_setCell _ _ _ _ (by show _ ≠ _; simp only; omega)), below_set HB.out _ _ (Nat.le_refl _) _⟩
end Go.Proofs.YtfookokepnnmoaaDoor
/-! Values that are made. -/
namespace Go.Proofs.YtfookokepnnmoaaDoor
open Go.RowKit
set_option maxRecDepth 20000
/-- The cells of atoms. -/
def atRow : List At → List Value
  | [] => []
  | x :: l => .int .i64 x.kind :: .int .i64 x.n :: .string x.text :: .int .i64 x.kids :: atRow l
theorem atRow_length (l : List At) : (atRow l).length = l.length * 4 := by
  induction l with
  | nil => rfl
  | cons x l ih => simp only [atRow, List.length_cons, ih]; omega
theorem atRow_append (a b : List At) : atRow (a ++ b) = atRow a ++ atRow b := by
  induction a with
  | nil => rfl
  | cons x a ih => simp [atRow, ih]
theorem atRow_one (l : List At) : ∀ u ∈ atRow l, u.oneCell' = true := by
  induction l with
  | nil => simp [atRow]
  | cons x l ih =>
    intro u hu
    simp only [atRow, List.mem_cons] at hu
    rcases hu with rfl | rfl | rfl | rfl | hu
    · rfl
    · rfl
    · rfl
    · rfl
    · exact ih u hu
theorem add_none (g o j : Nat) : ((⟨g, o, none⟩ : Addr).add j) = ⟨g, o + j, none⟩ := by
  unfold Addr.add
  split
  · rename_i h; rw [h]; rfl
  · rfl
theorem AtomsAt.tail {w : World} {g o : Nat} {x : At} {l : List At} (h : AtomsAt w g o (x :: l)) : AtomsAt w g (o + 4) l := fun i y hy => by
  have := h (i + 1) y (by simpa using hy)
  rwa [show o + (i + 1) * 4 = o + 4 + i * 4 by omega] at this
theorem AtomsAt.cells {w : World} {g o : Nat} {l : List At} (h : AtomsAt w g o l) : ∀ j u, (atRow l)[j]? = some u → w.cell? ((⟨g, o, none⟩ : Addr).add j) = some u := by
  intro j u hu
  rw [add_none]
  induction l generalizing o j with
  | nil => simp [atRow] at hu
  | cons x l ih =>
    obtain ⟨h0, h1, h2, h3⟩ := h 0 x rfl
    simp only [Nat.zero_mul, Nat.add_zero] at h0 h1 h2 h3
    match j with
    | 0 => simp [atRow] at hu; subst hu; exact h0
    | 1 => simp [atRow] at hu; subst hu; exact h1
    | 2 => simp [atRow] at hu; subst hu; exact h2
    | 3 => simp [atRow] at hu; subst hu; exact h3
    | j + 4 =>
      have := ih h.tail j (by simpa [atRow] using hu)
      rwa [show o + 4 + j = o + (j + 4) by omega] at this
theorem AtomsAt.of_cells {w : World} {g o : Nat} {l : List At} (h : ∀ j u, (atRow l)[j]? = some u → w.cell? ⟨g, o + j, none⟩ = some u) : AtomsAt w g o l := by
  intro i x hx
  induction l generalizing o i with
  | nil => simp at hx
  | cons y l ih =>
    cases i with
    | zero =>
      simp at hx
      subst hx
      refine ⟨?_, ?_, ?_, ?_⟩
      · have := h 0 _ (by simp [atRow]; rfl); simpa using this
      · have := h 1 _ (by simp [atRow]; rfl); simpa using this
      · have := h 2 _ (by simp [atRow]; rfl); simpa using this
      · have := h 3 _ (by simp [atRow]; rfl); simpa using this
    | succ i =>
      have := ih (o := o + 4) (fun j u hu => by have := h (j + 4) u (by simpa [atRow] using hu); rwa [show o + (j + 4) = o + 4 + j by omega] at this) i (by simpa using hx)
      rwa [show o + 4 + i * 4 = o + (i + 1) * 4 by omega] at this
theorem own_atoms {w : World} {B n : Nat} {v : Value} {l : List At} (h : w.ownsRow B 51 4 v n (atRow l)) (hv : ¬ v = .slice none 0 0) :
    ∃ g cap, v = .slice (some ⟨g, 0, none⟩) n cap ∧ B ≤ g ∧ g < w.heap.size ∧ n ≤ cap ∧ cap ≤ maxLen ∧ AtomsAt w g 0 l ∧ ∃ cur, w.heap[g]? = some (.cells cur 51 (0, 0)) := by
  have hc := h
  obtain ⟨_, ⟨h2, _⟩ | ⟨g, cap, cur, rfl, h2, h3, h4, h5, _⟩⟩ := h
  · exact absurd h2 hv
  · refine ⟨g, cap, rfl, h2, (Array.getElem?_eq_some_iff.1 h3).1, h4, h5, AtomsAt.of_cells fun j u hu => ?_, cur, h3⟩
    have := hc.cells rfl j u hu
    rwa [add_none] at this
/-- The atoms of a value can be read; they do not lie in block R. -/
def ValIn (R : Nat) (w : World) (s : Value) (l : List At) : Prop := ∃ g o N cap, s = .slice (some ⟨g, o, none⟩) N cap ∧ l.length = N ∧ N ≤ cap ∧ cap ≤ 9223372036854775807 ∧ g < w.heap.size ∧ g ≠ R ∧ AtomsAt w g o l ∧ ∃ cur fr, w.heap[g]? = some (.cells cur 51 fr)
theorem ValIn.sv {R : Nat} {w w' : World} {s : Value} {l : List At} (h : ValIn R w s l) (hs : Sv (fun k => k = R) w w') : ValIn R w' s l := by
  obtain ⟨g, o, N, cap, h1, h2, h3, h4, h5, h6, h7, cur, fr, h8⟩ := h
  exact ⟨g, o, N, cap, h1, h2, h3, h4, Nat.lt_of_lt_of_le h5 hs.size, h6, h7.keep (hs.block g h5 h6), cur, fr, (hs.block g h5 h6).trans h8⟩
theorem ValIn.next {R : Nat} {w w' : World} {s : Value} {l : List At} (h : ValIn R w s l) (hb : Below w.heap.size w w') : ValIn R w' s l := h.sv (Sv.of_below hb)
theorem OneMade.val {R : Nat} {x : At} {w w' : World} {e : Ending} (h : OneMade x w w' e) (hR : R < w.heap.size) : ∃ s, e = .returned (.agg #[s]) ∧ ValIn R w' s [x] ∧ Below w.heap.size w w' := by
  obtain ⟨g, rfl, h1, h2, h4⟩ := h
  obtain ⟨cur, h5, _⟩ := h2.1
  exact ⟨_, rfl, ⟨g, 0, 1, 1, rfl, rfl, by omega, by omega, h2.lt, by omega, h2.2, cur, _, h5⟩, h4⟩
set_option maxHeartbeats 1000000 in
theorem l5None_any (w : World) : Calls Tryd.prog 43 #[] w fun e w' => OneMade ⟨1, 0, ⟨#[]⟩, 0⟩ w w' e := by
  have HC := hid (l5One_any ⟨1, 0, ⟨#[]⟩, 0⟩ (w.alloc (.cells #[.slice none 0 0] 25)))
  go_enter Tryd.func43, Tryd.ntmps43
  go_wp2_with fail
  refine HC.out.mono ?_
  rintro e w1 ⟨g, rfl, hg, ha, hb1⟩
  obtain ⟨t1, t2⟩ := one_row hb1
  simp only [World.size_alloc] at hg
  have HA := hid ha
  have HB := hid (((Below.refl w.heap.size w).alloc (Nat.le_refl _) _).trans (hb1.mono (by simp)))
  clear ha hb1
  go_wp2
  exact bodyPost_ret (v := .agg #[.slice (some ⟨g, 0, none⟩) 1 1]) (by simp [results, Tryd.results43, go_sem, t1]) rfl ⟨g, rfl, by omega, HA.out.keep (Below.heap_setCell _ _ _ _ (by show _ ≠ _; simp only; omega)), below_set HB.out _ _ (Nat.le_refl _) _⟩
set_option maxHeartbeats 1000000 in
theorem l5Text_any (s : ByteArray) (w : World) : Calls Tryd.prog 48 #[.string s] w fun e w' => OneMade ⟨4, 0, s, 0⟩ w w' e := by
  have HC := hid (l5One_any ⟨4, 0, s, 0⟩ (w.alloc (.cells #[.slice none 0 0] 25)))
  go_enter Tryd.func48, Tryd.ntmps48
  go_wp2_with fail
  refine HC.out.mono ?_
  rintro e w1 ⟨g, rfl, hg, ha, hb1⟩
  obtain ⟨t1, t2⟩ := one_row hb1
  simp only [World.size_alloc] at hg
  have HA := hid ha
  have HB := hid (((Below.refl w.heap.size w).alloc (Nat.le_refl _) _).trans (hb1.mono (by simp)))
  clear ha hb1
  go_wp2
  exact bodyPost_ret (v := .agg #[.slice (some ⟨g, 0, none⟩) 1 1]) (by simp [results, Tryd.results48, go_sem, t1]) rfl ⟨g, rfl, by omega, HA.out.keep (Below.heap_setCell _ _ _ _ (by show _ ≠ _; simp only; omega)), below_set HB.out _ _ (Nat.le_refl _) _⟩
end Go.Proofs.YtfookokepnnmoaaDoor
