import Derived.Test.YtfookokepnnmoaaDoorJUSz
import Derived.Test.YtfookokepnnmoaaDoorJQuiet
namespace Go.Proofs.YtfookokepnnmoaaDoor
open Go.RowKit
set_option maxRecDepth 20000
theorem info_at : (Tryd.prog.info? 51).map (fun i => (i.zero, i.size, i.bytes)) = some (some (.agg #[.int .i64 0, .int .i64 0, .string ⟨#[]⟩, .int .i64 0]), 4, 40) := by kernel_rfl
/-- A row of n atoms that is being filled. -/
def Filling (W : World) (g n j : Nat) (l : List At) : Prop := (∃ cur, W.heap[g]? = some (.cells cur 51 (0, 0)) ∧ cur.size = n * 4) ∧ AtomsAt W g 0 (l.take j)
theorem four_room {W : World} {g j : Nat} {cur : Array Value} {t : TypeId} (h : W.heap[g]? = some (.cells cur t (0, 0))) (hj : j * 4 + 3 < cur.size) :
    (∃ v, W.cell? ⟨g, j * 4, none⟩ = some v) ∧ (∃ v, W.cell? ⟨g, j * 4 + 1, none⟩ = some v) ∧ (∃ v, W.cell? ⟨g, j * 4 + 2, none⟩ = some v) ∧ (∃ v, W.cell? ⟨g, j * 4 + 3, none⟩ = some v) ∧
    W.frozen? ⟨g, j * 4, none⟩ = false ∧ W.frozen? ⟨g, j * 4 + 1, none⟩ = false ∧ W.frozen? ⟨g, j * 4 + 2, none⟩ = false ∧ W.frozen? ⟨g, j * 4 + 3, none⟩ = false := by
  have c : ∀ i, i < cur.size → ∃ v, W.cell? ⟨g, i, none⟩ = some v := fun i hi => ⟨cur[i], by unfold World.cell?; rw [h]; simp [hi]⟩
  have f : ∀ i, W.frozen? ⟨g, i, none⟩ = false := fun i => by unfold World.frozen?; rw [h]; simp
  exact ⟨c _ (by omega), c _ (by omega), c _ (by omega), c _ (by omega), f _, f _, f _, f _⟩
theorem fill_step {W : World} {g N j : Nat} {l : List At} {x : At} {cur : Array Value} (h : W.heap[g]? = some (.cells cur 51 (0, 0)) ∧ cur.size = N * 4) (hno : AtomsAt W g 0 (l.take j)) (hj : j < N) (hx : l[j]? = some x) :
    Filling ((((W.setCell ⟨g, j * 4, none⟩ (.int .i64 x.kind)).setCell ⟨g, j * 4 + 1, none⟩ (.int .i64 x.n)).setCell ⟨g, j * 4 + 2, none⟩ (.string x.text)).setCell ⟨g, j * 4 + 3, none⟩ (.int .i64 x.kids)) g N (j + 1) l := by
  obtain ⟨h1, h2⟩ := h
  have e := set_at (.int .i64 x.kids) (i := j * 4 + 3) (set_at (.string x.text) (i := j * 4 + 2) (set_at (.int .i64 x.n) (i := j * 4 + 1) (set_at (.int .i64 x.kind) (i := j * 4) h1)))
  refine ⟨⟨_, e, by simp [h2]⟩, ?_⟩
  have c : ∀ i, World.cell? ((((W.setCell ⟨g, j * 4, none⟩ (.int .i64 x.kind)).setCell ⟨g, j * 4 + 1, none⟩ (.int .i64 x.n)).setCell ⟨g, j * 4 + 2, none⟩ (.string x.text)).setCell ⟨g, j * 4 + 3, none⟩ (.int .i64 x.kids)) ⟨g, i, none⟩ = ((((cur.setIfInBounds (j * 4) (.int .i64 x.kind)).setIfInBounds (j * 4 + 1) (.int .i64 x.n)).setIfInBounds (j * 4 + 2) (.string x.text)).setIfInBounds (j * 4 + 3) (.int .i64 x.kids))[i]? := fun i => by
    unfold World.cell?
    rw [e]; rfl
  have o : ∀ i, W.cell? ⟨g, i, none⟩ = cur[i]? := fun i => by
    unfold World.cell?
    rw [h1]; rfl
  have low : ∀ i, i < j * 4 → World.cell? ((((W.setCell ⟨g, j * 4, none⟩ (.int .i64 x.kind)).setCell ⟨g, j * 4 + 1, none⟩ (.int .i64 x.n)).setCell ⟨g, j * 4 + 2, none⟩ (.string x.text)).setCell ⟨g, j * 4 + 3, none⟩ (.int .i64 x.kids)) ⟨g, i, none⟩ = W.cell? ⟨g, i, none⟩ := fun i hi => by
    rw [c, o, Array.getElem?_setIfInBounds_ne (by omega), Array.getElem?_setIfInBounds_ne (by omega), Array.getElem?_setIfInBounds_ne (by omega), Array.getElem?_setIfInBounds_ne (by omega)]
  intro i y hy
  have hi : i < j + 1 := by
    have := (List.getElem?_eq_some_iff.1 hy).1
    rw [List.length_take] at this; omega
  rw [List.getElem?_take_of_lt hi] at hy
  rcases Nat.lt_or_eq_of_le (Nat.lt_succ_iff.1 hi) with h | h
  · obtain ⟨d0, d1, d2, d3⟩ := hno i y (by rw [List.getElem?_take_of_lt h]; exact hy)
    exact ⟨(low _ (by omega)).trans d0, (low _ (by omega)).trans d1, (low _ (by omega)).trans d2, (low _ (by omega)).trans d3⟩
  · subst h
    rw [hx] at hy
    cases hy
    rw [Nat.zero_add]
    refine ⟨?_, ?_, ?_, ?_⟩
    · rw [c, Array.getElem?_setIfInBounds_ne (by omega), Array.getElem?_setIfInBounds_ne (by omega), Array.getElem?_setIfInBounds_ne (by omega), Array.getElem?_setIfInBounds_self_of_lt (by omega)]
    · rw [c, Array.getElem?_setIfInBounds_ne (by omega), Array.getElem?_setIfInBounds_ne (by omega), Array.getElem?_setIfInBounds_self_of_lt (by simp; omega)]
    · rw [c, Array.getElem?_setIfInBounds_ne (by omega), Array.getElem?_setIfInBounds_self_of_lt (by simp; omega)]
    · rw [c, Array.getElem?_setIfInBounds_self_of_lt (by simp; omega)]
set_option maxHeartbeats 2000000 in
theorem toAtomS_any (a : Addr) (l : List At) (N cap : Nat) (w : World) (hl : l.length = N) (hN : N ≤ 1048576) (ha : a.block < w.heap.size) (hn : ∀ i x, l[i]? = some x → FourA w (a.add (i * 4)) x) :
    Calls Tryd.prog 24 #[.slice (some a) N cap] w fun e w' => e = .returned (.slice (some ⟨w.heap.size, 0, none⟩) N N) ∧ AtomsAt w' w.heap.size 0 l ∧ w.heap.size < w'.heap.size ∧ Below w.heap.size w w' := by
  have HN := hid hn
  have HL := hid hl
  clear hn hl
  obtain ⟨i0, hi, hz0, hz1, hz2⟩ := info_parts info_at
  have HHI := hid (And.intro hi (And.intro hz0 (And.intro hz1 hz2)))
  clear hi hz0 hz1
  go_enter Tryd.func24, Tryd.ntmps24
  go_wp2_with (at_make; refine wpList_make_full _ rfl _ _ 23 rfl w.heap.size 51 i0 (.agg #[.int .i64 0, .int .i64 0, .string ⟨#[]⟩, .int .i64 0]) 4 Tryd.underlying23 HHI.out.1 HHI.out.2.1 HHI.out.2.2.1 _ _ _ _ N rfl rfl rfl rfl (by rw [hz2]; omega) (by unfold maxLen; omega) (Nat.le_refl _) ?_; intro w1 o1 g1)
  have HF0 : Hid (Filling w1 w.heap.size N 0 l) := by
    obtain ⟨h1, ⟨h2, _⟩ | ⟨g, c, cur, e, _, h4, _, _, h7, _⟩⟩ := o1
    · cases h2
    · cases e
      exact ⟨⟨cur, h4, h7⟩, fun i x h => by simp at h⟩
  have HB0 := hid ((Below.refl w.heap.size w).grown g1 (Nat.le_refl _) (fun q e => by cases e))
  clear o1 g1
  go_loopw [4] (fun i wr => ∃ j : Nat, j ≤ N ∧ i = .int .i64 j ∧ Filling wr w.heap.size N j l ∧ Below w.heap.size w wr) (fun i _ => N - (intOf i).toNat)
  case atStart => exact ⟨0, Nat.zero_le _, rfl, HF0.out, HB0.out⟩
  case round =>
    obtain ⟨j, hj, rfl, hfi, hbw⟩ := hrel
    have HFI := hid hfi
    have HBW := hid hbw
    clear hfi hbw
    by_cases hlt : j < N
    · have hjl : j < l.length := by rw [HL.out]; exact hlt
      obtain ⟨x, hx⟩ : ∃ x, l[j]? = some x := ⟨_, List.getElem?_eq_getElem hjl⟩
      obtain ⟨c0, c1, c2, c3⟩ := (HN.out j x hx).below HBW.out (by rw [add_block]; exact ha)
      have HX := hid hx
      clear hx
      go_wp2_with fail
      refine (toAtom_any x _).mono ?_
      rintro e w2 ⟨rfl, hb2⟩
      have HB2 := hid hb2
      obtain ⟨⟨cur, hcur, hsz⟩, hno⟩ := HFI.out
      have hcur2 := (hb2.block _ (Array.getElem?_eq_some_iff.1 hcur).1).trans hcur
      have hidx : j * 4 + 3 < cur.size := by rw [hsz]; omega
      have HCUR := hid (And.intro hcur2 hsz)
      obtain ⟨⟨v0, x0⟩, ⟨v1, x1⟩, ⟨v2, x2⟩, ⟨v3, x3⟩, y0, y1, y2, y3⟩ := four_room hcur2 hidx
      clear hb2 hcur hcur2 hno
      simp only [atV]
      go_wp2
      have HNX := hid (fill_step HCUR.out (HFI.out.2.below (HB2.out) (by have := HBW.out.size; obtain ⟨⟨_, hc, _⟩, _⟩ := HFI.out; exact (Array.getElem?_eq_some_iff.1 hc).1)) hlt HX.out)
      have HBX := hid (HBW.out.trans (HB2.out.mono HBW.out.size))
      go_roundw
      case rel => exact ⟨j + 1, by omega, by go_num, HNX.out, below_set (below_set (below_set (below_set HBX.out _ _ (Nat.le_refl _) _) _ _ (Nat.le_refl _) _) _ _ (Nat.le_refl _) _) _ _ (Nat.le_refl _) _⟩
      case measure => simp [intOf]; omega
    · obtain rfl : j = N := by omega
      go_wp2
      go_ret
      exact ⟨rfl, by have := HFI.out.2; rwa [List.take_of_length_le (by rw [HL.out]; omega)] at this, by have := HBW.out.size; obtain ⟨⟨cur, hc, _⟩, _⟩ := HFI.out; exact (Array.getElem?_eq_some_iff.1 hc).1, HBW.out⟩
set_option maxHeartbeats 1000000 in
theorem toAtomS_none (ad : Option Addr) (cap : Nat) (w : World) :
    Calls Tryd.prog 24 #[.slice ad 0 cap] w fun e w' => e = .returned (.slice (some ⟨w.heap.size, 0, none⟩) 0 0) ∧ AtomsAt w' w.heap.size 0 [] ∧ w.heap.size < w'.heap.size ∧ Below w.heap.size w w' := by
  obtain ⟨i0, hi, hz0, hz1, hz2⟩ := info_parts info_at
  have HHI := hid (And.intro hi (And.intro hz0 hz1))
  clear hi hz0 hz1
  go_enter Tryd.func24, Tryd.ntmps24
  go_wp2_with (at_make; refine wpList_make_full _ rfl _ _ 23 rfl w.heap.size 51 i0 (.agg #[.int .i64 0, .int .i64 0, .string ⟨#[]⟩, .int .i64 0]) 4 Tryd.underlying23 HHI.out.1 HHI.out.2.1 HHI.out.2.2 _ _ _ _ 0 rfl rfl rfl rfl (by omega) (by unfold maxLen; omega) (Nat.le_refl _) ?_; intro w1 o1 g1)
  have hsz : w.heap.size < w1.heap.size := by
    obtain ⟨h1, ⟨h2, _⟩ | ⟨g, c, cur, e, _, h4, _, _, h7, _⟩⟩ := o1
    · cases h2
    · cases e
      exact (Array.getElem?_eq_some_iff.1 h4).1
  have HB0 := hid ((Below.refl w.heap.size w).grown g1 (Nat.le_refl _) (fun q e => by cases e))
  clear o1 g1
  go_loopw [4] (fun i wr => i = .int .i64 0 ∧ wr = w1) (fun _ _ => 0)
  case atStart => exact ⟨rfl, rfl⟩
  case round =>
    obtain ⟨rfl, rfl⟩ := hrel
    go_wp2
    go_ret
    exact ⟨rfl, fun i x h => by simp at h, hsz, HB0.out⟩
theorem toAtomS_all (ad : Option Addr) (l : List At) (N cap : Nat) (w : World) (hl : l.length = N) (hN : N ≤ 1048576) (hn : AtomsA w ad l) :
    Calls Tryd.prog 24 #[.slice ad N cap] w fun e w' => e = .returned (.slice (some ⟨w.heap.size, 0, none⟩) N N) ∧ AtomsAt w' w.heap.size 0 l ∧ w.heap.size < w'.heap.size ∧ Below w.heap.size w w' := by
  rcases hn with rfl | ⟨a, rfl, h1, h2⟩
  · cases hl; exact toAtomS_none ad cap w
  · exact toAtomS_any a l N cap w hl hN h1 h2
theorem three_rows {w w1 : World} {X : Obj} {u v : Value} {t : TypeId} (h : Below (((w.alloc X).alloc (.cells #[u] t)).alloc (.cells #[v] t)).heap.size (((w.alloc X).alloc (.cells #[u] t)).alloc (.cells #[v] t)) w1) :
    (w1.cell? ⟨w.heap.size + 1, 0, none⟩ = some u ∧ w1.frozen? ⟨w.heap.size + 1, 0, none⟩ = false) ∧ (w1.cell? ⟨w.heap.size + 1 + 1, 0, none⟩ = some v ∧ w1.frozen? ⟨w.heap.size + 1 + 1, 0, none⟩ = false) := by
  have e2 : w1.heap[w.heap.size + 1 + 1]? = some (.cells #[v] t) := by
    rw [h.block _ (by simp)]
    have := heap_alloc_new ((w.alloc X).alloc (.cells #[u] t)) (.cells #[v] t)
    rwa [World.size_alloc, World.size_alloc] at this
  have e1 : w1.heap[w.heap.size + 1]? = some (.cells #[u] t) := by
    rw [h.block _ (by simp), Below.heap_alloc _ _ _ (by simp)]
    have := heap_alloc_new (w.alloc X) (.cells #[u] t)
    rwa [World.size_alloc] at this
  refine ⟨⟨?_, ?_⟩, ?_, ?_⟩
  · unfold World.cell?; rw [e1]; rfl
  · unfold World.frozen?; rw [e1]; rfl
  · unfold World.cell?; rw [e2]; rfl
  · unfold World.frozen?; rw [e2]; rfl
theorem AtomsAt.set {W : World} {g o b : Nat} {l : List At} (h : AtomsAt W g o l) (hb : b ≠ g) (v : Value) : AtomsAt (W.setCell ⟨b, 0, none⟩ v) g o l := by
  intro i x hi
  obtain ⟨c0, c1, c2, c3⟩ := h i x hi
  have k : ∀ j, (W.setCell ⟨b, 0, none⟩ v).cell? ⟨g, j, none⟩ = W.cell? ⟨g, j, none⟩ := fun j => by
    unfold World.cell? World.setCell
    simp only [Array.getElem?_modify]
    rw [if_neg hb]
  exact ⟨(k _).trans c0, (k _).trans c1, (k _).trans c2, (k _).trans c3⟩
set_option maxHeartbeats 1000000 in
theorem toValue_any (ad : Option Addr) (l : List At) (N cap : Nat) (w : World) (hl : l.length = N) (hN : N ≤ 1048576) (hn : AtomsA w ad l) :
    Calls Tryd.prog 12 #[.agg #[.slice ad N cap]] w fun e w' => ∃ g, e = .returned (.agg #[.slice (some ⟨g, 0, none⟩) N N]) ∧ AtomsAt w' g 0 l ∧ g < w'.heap.size ∧ w.heap.size ≤ g ∧ Below w.heap.size w w' := by
  have HB := hid ((Below.refl w.heap.size w).alloc (Nat.le_refl _) (.cells #[.slice ad N cap] 34))
  have HN := hid hn
  have HL := hid hl
  clear hn hl
  go_enter Tryd.func12, Tryd.ntmps12
  go_wp2_with fail
  have HB3 := hid (((HB.out.alloc (by simp) (.cells #[.slice none 0 0] 25))).alloc (by simp; omega) (.cells #[.slice none 0 0] 25))
  refine (toAtomS_all ad l N cap _ HL.out hN (HN.out.below HB3.out)).mono ?_
  rintro e w1 ⟨rfl, hno, hlt, hb1⟩
  obtain ⟨⟨x1, y1⟩, ⟨x2, y2⟩⟩ := three_rows hb1
  have HNO := hid hno
  have HLT := hid hlt
  have HB1 := hid (HB3.out.trans (hb1.mono (by simp; omega)))
  clear hno hlt hb1
  go_wp2
  refine bodyPost_ret (v := .agg #[.slice (some ⟨w.heap.size + 1 + 1 + 1, 0, none⟩) N N]) (by simp [results, Tryd.results12, go_sem, x1]) rfl ⟨w.heap.size + 1 + 1 + 1, rfl, ?_, ?_, by omega, ?_⟩
  · have h3 := HNO.out
    simp only [World.size_alloc] at h3
    exact (h3.set (by omega) _).set (by omega) _
  · have := HLT.out
    simp only [World.size_alloc] at this
    simpa using this
  · exact below_set (below_set HB1.out _ _ (by omega) _) _ _ (by omega) _
end Go.Proofs.YtfookokepnnmoaaDoor
namespace Go.Proofs.YtfookokepnnmoaaDoor
open Go.RowKit
set_option maxRecDepth 20000
set_option maxHeartbeats 1000000 in
theorem eqAtom_same (x : At) (w : World) :
    Calls Tryd.prog 42 #[atV x, atV x] w fun e w' => e = .returned (.bool true) ∧ Below w.heap.size w w' := by
  obtain ⟨k, n, t, kids⟩ := x
  unfold atV
  have h1 : (k != k) = false := by simp
  have h3 : (n != n) = false := by simp
  have h4 : (kids != kids) = false := by simp
  have h5 : (t.toList != t.toList) = false := by simp
  go_enter Tryd.func42, Tryd.ntmps42
  go_wp2
  go_ret
  exact ⟨rfl, below_two' _ _ _⟩
/-- Atoms that lie at an address, if there are any. -/
def AtomsB (W : World) (ad : Option Addr) (l : List At) : Prop := l = [] ∨ ∃ g o, ad = some ⟨g, o, none⟩ ∧ g < W.heap.size ∧ AtomsAt W g o l
theorem AtomsB.below {W W' : World} {ad : Option Addr} {l : List At} (h : AtomsB W ad l) (hb : Below W.heap.size W W') : AtomsB W' ad l := by
  rcases h with h | ⟨g, o, rfl, h1, h2⟩
  · exact .inl h
  · exact .inr ⟨g, o, rfl, Nat.lt_of_lt_of_le h1 hb.size, h2.below hb h1⟩
set_option maxHeartbeats 1000000 in
theorem eqAtomS_same (g1 o1 g2 o2 N c1 c2 : Nat) (l : List At) (w : World) (hl : l.length = N) (hN : N ≤ 1048576) (hl1 : g1 < w.heap.size) (hl2 : g2 < w.heap.size) (h1 : AtomsAt w g1 o1 l) (h2 : AtomsAt w g2 o2 l) :
    Calls Tryd.prog 25 #[.slice (some ⟨g1, o1, none⟩) N c1, .slice (some ⟨g2, o2, none⟩) N c2] w fun e w' => e = .returned (.bool true) ∧ Below w.heap.size w w' := by
  have H1 := hid h1
  have H2 := hid h2
  have HL := hid hl
  clear h1 h2 hl
  have hne : ((N : Int) != (N : Int)) = false := by simp
  go_enter Tryd.func25, Tryd.ntmps25
  go_wp2
  go_loopw [5] (fun i wr => ∃ j : Nat, j ≤ N ∧ i = .int .i64 j ∧ Below w.heap.size w wr) (fun i _ => N - (intOf i).toNat)
  case atStart => exact ⟨0, Nat.zero_le _, rfl, Below.refl _ _⟩
  case round =>
    obtain ⟨j, hj, rfl, hbw⟩ := hrel
    have HBW := hid hbw
    clear hbw
    by_cases hlt : j < N
    · have hjl : j < l.length := by rw [HL.out]; exact hlt
      obtain ⟨x, hx⟩ : ∃ x, l[j]? = some x := ⟨_, List.getElem?_eq_getElem hjl⟩
      have F1 : ∀ p : Gr wr, FourAt p.W g1 (o1 + j * 4) x := fun p => (H1.out.below (HBW.out.trans (p.h.mono HBW.out.size)) hl1) j x hx
      have F2 : ∀ p : Gr wr, FourAt p.W g2 (o2 + j * 4) x := fun p => (H2.out.below (HBW.out.trans (p.h.mono HBW.out.size)) hl2) j x hx
      have a0 := fun p : Gr wr => (F1 p).1
      have a1 := fun p : Gr wr => (F1 p).2.1
      have a2 := fun p : Gr wr => (F1 p).2.2.1
      have a3 := fun p : Gr wr => (F1 p).2.2.2
      have b0 := fun p : Gr wr => (F2 p).1
      have b1 := fun p : Gr wr => (F2 p).2.1
      have b2 := fun p : Gr wr => (F2 p).2.2.1
      have b3 := fun p : Gr wr => (F2 p).2.2.2
      clear F1 F2 hx
      go_wp2_with fail
      have hne2 : Nonempty (Gr wr) := ⟨⟨wr, Below.refl _ _⟩⟩
      refine wp_region_gr (by kernel_rfl) (by kernel_rfl) ?_
      repeat (quiet_step (first | (go_at_call 42; refine Calls.gr_of (v := .bool true) fun _ => ?_; exact eqAtom_same x _)))
      refine wpQuiet_nil ?_
      intro _ hw'
      obtain ⟨pw, rfl⟩ := hw'
      have HB4 := hid (HBW.out.trans (pw.h.mono HBW.out.size))
      clear a0 a1 a2 a3 b0 b1 b2 b3
      go_wp2
      go_roundw
      case rel => exact ⟨j + 1, by omega, by go_num, HB4.out⟩
      case measure => simp [intOf]; omega
    · obtain rfl : j = N := by omega
      go_wp2
      go_ret
      exact ⟨rfl, HBW.out⟩
set_option maxHeartbeats 1000000 in
theorem eqAtomS_none (a1 a2 : Option Addr) (c1 c2 : Nat) (w : World) :
    Calls Tryd.prog 25 #[.slice a1 0 c1, .slice a2 0 c2] w fun e w' => e = .returned (.bool true) ∧ Below w.heap.size w w' := by
  go_enter Tryd.func25, Tryd.ntmps25
  go_wp2
  go_loopw [5] (fun i wr => i = .int .i64 0 ∧ wr = w) (fun _ _ => 0)
  case atStart => exact ⟨rfl, rfl⟩
  case round =>
    obtain ⟨rfl, rfl⟩ := hrel
    go_wp2
    go_ret
    exact ⟨rfl, Below.refl _ _⟩
theorem eqAtomS_all (a1 a2 : Option Addr) (N c1 c2 : Nat) (l : List At) (w : World) (hl : l.length = N) (hN : N ≤ 1048576) (h1 : AtomsB w a1 l) (h2 : AtomsB w a2 l) :
    Calls Tryd.prog 25 #[.slice a1 N c1, .slice a2 N c2] w fun e w' => e = .returned (.bool true) ∧ Below w.heap.size w w' := by
  rcases h1 with rfl | ⟨g1, o1, rfl, h1a, h1b⟩
  · cases hl; exact eqAtomS_none a1 a2 c1 c2 w
  · rcases h2 with rfl | ⟨g2, o2, rfl, h2a, h2b⟩
    · cases hl; exact eqAtomS_none _ a2 c1 c2 w
    · exact eqAtomS_same g1 o1 g2 o2 N c1 c2 l w hl hN h1a h2a h1b h2b
set_option maxHeartbeats 1000000 in
theorem eqValue_same (a1 a2 : Option Addr) (N c1 c2 : Nat) (l : List At) (w : World) (hl : l.length = N) (hN : N ≤ 1048576) (h1 : AtomsB w a1 l) (h2 : AtomsB w a2 l) :
    Calls Tryd.prog 14 #[.agg #[.slice a1 N c1], .agg #[.slice a2 N c2]] w fun e w' => e = .returned (.bool true) ∧ Below w.heap.size w w' := by
  have HB := hid (below_two' w (.cells #[.slice a1 N c1] 25) (.cells #[.slice a2 N c2] 25))
  have H1 := hid (h1.below HB.out)
  have H2 := hid (h2.below HB.out)
  have HL := hid hl
  clear h1 h2 hl
  go_enter Tryd.func14, Tryd.ntmps14
  go_wp2_with (go_at_call 25; refine (eqAtomS_all a1 a2 N c1 c2 l _ HL.out hN H1.out H2.out).mono ?_; rintro e w1 ⟨rfl, hb1⟩; have HB1 := hid (HB.out.trans (hb1.mono (by simp; omega))); clear hb1)
  go_ret
  exact ⟨rfl, HB1.out⟩
end Go.Proofs.YtfookokepnnmoaaDoor
