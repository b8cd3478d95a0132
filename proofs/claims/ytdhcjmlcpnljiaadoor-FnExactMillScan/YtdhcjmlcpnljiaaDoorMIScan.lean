import Derived.Test.YtdhcjmlcpnljiaaDoorMIIter
import Derived.Test.YtdhcjmlcpnljiaaDoorIScan
import Derived.Test.YtdhcjmlcpnljiaaDoorMSScan
/-! Printed by gen_iter.py out of the like of Clay. -/
namespace Go.Proofs.YtdhcjmlcpnljiaaDoor
open Go.RowKit Go.Shelf
attribute [local go_sem] Oper.semAt_some
theorem mscanA_code (f : Nat) (l : List UInt8) (p : Nat) (ts : List MTok) (x : Nat × Nat) (h : mscanA f l p = (ts, some x)) : x.1 ≠ 0 := by
  induction f generalizing p ts with
  | zero => simp [mscanA] at h
  | succ f ih =>
    unfold mscanA at h
    split at h
    · simp at h
    · split at h
      · rename_i hc
        simp only [Prod.mk.injEq, Option.some.injEq] at h
        rw [← h.2]; exact hc
      · simp only [Prod.mk.injEq] at h
        exact ih _ _ (Prod.ext rfl h.2)
theorem mscanA_len (f : Nat) (l : List UInt8) (p : Nat) : (mitemsOf (mscanA f l p)).length ≤ l.length - p + 1 := by
  induction f generalizing p with
  | zero => simp [mscanA, mitemsOf]
  | succ f ih =>
    by_cases h : p < l.length
    · by_cases hc : (mone (l.drop p)).code = 0
      · rw [mscanA_go f l p h hc, mitemsOf_cons, List.length_cons]
        have h1 := mone_size _ hc
        have h2 := ih (p + (mone (l.drop p)).size + gapN false (l.drop (p + (mone (l.drop p)).size)))
        omega
      · rw [mscanA_bad f l p h hc]; simp [mitemsOf]
    · rw [mscanA_end _ l p (by omega)]; simp [mitemsOf]
theorem mitems_len (l : List UInt8) : (mitems l).length ≤ l.length + 1 := by
  have := mscanA_len (l.length + 1) l (gapN false l)
  unfold mitems; omega
theorem mitems_done (l : List UInt8) (hl : l.length ≤ 12000) (h : ∀ y ∈ mitems l, y.2.1 = 0) : mscanR l = ((mitems l).map (·.1), 0, 0) := by
  unfold mitems at *
  unfold mscanR
  rw [if_neg (by omega)]
  rcases hr : mscanA (l.length + 1) l (gapN false l) with ⟨ts, o⟩
  cases o with
  | none => simp [mitemsOf, Function.comp_def]
  | some x =>
    exfalso
    rw [hr] at h
    exact mscanA_code _ _ _ _ _ hr (h (mzeroTok, x) (by simp [mitemsOf]))
theorem mitems_stop (l : List UInt8) (hl : l.length ≤ 12000) (y : MTok × Nat × Nat) (hy : y ∈ mitems l) (hc : y.2.1 ≠ 0) : mscanR l = ([], y.2.1, y.2.2) := by
  unfold mitems at *
  unfold mscanR
  rw [if_neg (by omega)]
  rcases hr : mscanA (l.length + 1) l (gapN false l) with ⟨ts, o⟩
  rw [hr] at hy
  cases o with
  | none =>
    exfalso
    simp only [mitemsOf, List.mem_map] at hy
    obtain ⟨t, _, rfl⟩ := hy
    exact hc rfl
  | some x =>
    simp only [mitemsOf, List.mem_append, List.mem_map, List.mem_singleton] at hy
    rcases hy with ⟨t, _, rfl⟩ | rfl
    · exact absurd rfl hc
    · rfl
set_option maxHeartbeats 1000000 in
theorem miScan_long (s : ByteArray) (w : World) (hs : s.size ≤ maxLen) (hl : 12000 < s.size) :
    Calls Tryd.prog 6 #[.string s] w fun e w' => ∃ v, e = .returned (.tuple #[v, .agg #[.int .i64 1, .int .i64 0]]) ∧ w'.ownsRow w.heap.size 39 5 v 0 [] ∧ Below w.heap.size w w' := by
  unfold maxLen at hs
  go_enter Tryd.func6, Tryd.ntmps6
  go_wp2
  refine bodyPost_ret (v := .tuple #[.slice none 0 0, .agg #[.int .i64 1, .int .i64 0]]) (by simp [results, Tryd.results6, go_sem]) rfl ⟨_, rfl, World.ownsRow_nil _ _ _ _, ?_⟩
  exact ((Below.refl w.heap.size w).alloc (Nat.le_refl _) _).alloc (by simp) _
/-- Between two rounds: the results are not told yet; the box holds the tokens that came. -/
structure MMid (B : Nat) (w : World) (ts : List MTok) (W : World) : Prop where
  r0 : W.heap[B]? = some (.cells #[.slice none 0 0] 22 (0, 0))
  r1 : W.heap[B + 1]? = some (.cells #[.int .i64 0, .int .i64 0] 24 (0, 0))
  box : ∃ v, W.heap[B + 2]? = some (.cells #[v] 22 (0, 0)) ∧ W.ownsRow (B + 4) 39 5 v ts.length (mtokRow ts)
  below : Below B w W
  size : B + 4 ≤ W.heap.size
/-- A round has left with a fault: it stands in the results. -/
structure MOut (B : Nat) (w : World) (x : Nat × Nat) (W : World) : Prop where
  r0 : W.heap[B]? = some (.cells #[.slice none 0 0] 22 (0, 0))
  r1 : W.heap[B + 1]? = some (.cells #[.int .i64 x.1, .int .i64 x.2] 24 (0, 0))
  below : Below B w W
theorem MMid.own (B : Nat) (w : World) (hB : B ≤ w.heap.size) : OwnFrom (B + 4) (fun ts W => MMid B w ts W) := fun ts W W' row hs hg hr => by
  have hr2 := fun r e => (hr r e).2
  obtain ⟨v, hv, ho⟩ := hs.box
  exact ⟨kept_block hg hr2 hs.r0 rfl, kept_block hg hr2 hs.r1 rfl, ⟨v, kept_block hg hr2 hv rfl, kept_row hg hr2 ho⟩, kept_below hs.below hB hg (fun r e => by have := (hr r e).1; omega), Nat.le_trans hs.size hg.size⟩
theorem MOut.own (B : Nat) (w : World) (hB : B ≤ w.heap.size) : OwnFrom (B + 4) (fun x W => MOut B w x W) := fun x W W' row hs hg hr => by
  have hr2 := fun r e => (hr r e).2
  exact ⟨kept_block hg hr2 hs.r0 rfl, kept_block hg hr2 hs.r1 rfl, kept_below hs.below hB hg (fun r e => by have := (hr r e).1; omega)⟩
/-- What 'return nil, fault' does in a round. -/
theorem mout_set {B : Nat} {w W : World} {ts : List MTok} (hm : MMid B w ts W) (x : Nat × Nat) :
    KeepsOthers W (((W.setCell ⟨B, 0, none⟩ (.slice none 0 0)).setCell ⟨B + 1, 0, none⟩ (.int .i64 x.1)).setCell ⟨B + 1, 1, none⟩ (.int .i64 x.2)).drew ∧
    MOut B w x (((W.setCell ⟨B, 0, none⟩ (.slice none 0 0)).setCell ⟨B + 1, 0, none⟩ (.int .i64 x.1)).setCell ⟨B + 1, 1, none⟩ (.int .i64 x.2)).drew := by
  refine ⟨(((KeepsOthers.setCell _ _ _).trans (KeepsOthers.setCell _ _ _)).trans (KeepsOthers.setCell _ _ _)).trans (KeepsOthers.drew _), ⟨?_, ?_, ?_⟩⟩
  · show (((W.setCell ⟨B, 0, none⟩ (.slice none 0 0)).setCell ⟨B + 1, 0, none⟩ (.int .i64 x.1)).setCell ⟨B + 1, 1, none⟩ (.int .i64 x.2)).heap[B]? = _
    rw [Below.heap_setCell _ _ _ _ (show B ≠ B + 1 by omega), Below.heap_setCell _ _ _ _ (show B ≠ B + 1 by omega)]
    exact set_heap hm.r0 _
  · show (((W.setCell ⟨B, 0, none⟩ (.slice none 0 0)).setCell ⟨B + 1, 0, none⟩ (.int .i64 x.1)).setCell ⟨B + 1, 1, none⟩ (.int .i64 x.2)).heap[B + 1]? = _
    have h0 : (W.setCell ⟨B, 0, none⟩ (.slice none 0 0)).heap[B + 1]? = some (.cells #[.int .i64 0, .int .i64 0] 24 (0, 0)) := by
      rw [Below.heap_setCell _ _ _ _ (show B + 1 ≠ B by omega)]; exact hm.r1
    exact set_heap (set_heap h0 _) _
  · exact (((hm.below.setCell (p := ⟨B, 0, none⟩) (Nat.le_refl _) _).setCell (p := ⟨B + 1, 0, none⟩) (Nat.le_succ _) _).setCell (p := ⟨B + 1, 1, none⟩) (Nat.le_succ _) _).drew
/-- What 'tokens = append(tokens, token)' does in a round. -/
theorem mmid_app {B : Nat} {w W w1 : World} {ts : List MTok} {t : MTok} {v v' : Value} {X : Obj} (hm : MMid B w ts W) (hv : W.heap[B + 2]? = some (.cells #[v] 22 (0, 0))) (ho : W.ownsRow (B + 4) 39 5 v ts.length (mtokRow ts))
    (hown' : w1.ownsRow (B + 4) 39 5 v' (ts.length + 1) (mtokRow ts ++ mtokCells t)) (hgrow : (W.alloc X).grownBy w1 v.ownBlock) :
    w1.heap[B + 2]? = some (.cells #[v] 22 (0, 0)) ∧ KeepsOthers W (w1.setCell ⟨B + 2, 0, none⟩ v') ∧ Kp B (B + 3) W (w1.setCell ⟨B + 2, 0, none⟩ v') ∧ MMid B w (ts ++ [t]) (w1.setCell ⟨B + 2, 0, none⟩ v') := by
  have hs := hm.size
  have hlow : ∀ k, k < B + 4 → w1.heap[k]? = W.heap[k]? := fun k hk =>
    (hgrow.block k (by simp; omega) (fun e => by have := (ho.lt k e.symm).1; omega)).trans (Below.heap_alloc W X k (by omega))
  have hset : ∀ k, k ≠ B + 2 → (w1.setCell ⟨B + 2, 0, none⟩ v').heap[k]? = w1.heap[k]? := fun k hk => Below.heap_setCell w1 ⟨B + 2, 0, none⟩ v' k hk
  have hbox1 : Boxed w1 (B + 2) 22 v := (hlow (B + 2) (by omega)).trans hv
  have hko : KeepsOthers W (w1.setCell ⟨B + 2, 0, none⟩ v') := by
    refine ((KeepsOthers.alloc W X).trans (KeepsOthers.of_grownBy hgrow fun j o ej hj => ?_)).trans (KeepsOthers.setCell _ _ _)
    rcases (ho.alloc X).2 with ⟨rfl, _⟩ | ⟨g, cap, cur, rfl, _, hgb, _⟩
    · simp [Value.ownBlock] at ej
    · obtain rfl : g = j := by simpa [Value.ownBlock] using ej
      rw [hgb] at hj; cases hj; rfl
  have hbW : Below B W (w1.setCell ⟨B + 2, 0, none⟩ v') :=
    (((Below.refl B W).alloc (by omega) X).grown hgrow (by simp; omega) fun j ej => by have := (ho.lt j ej).1; omega).setCell (p := ⟨B + 2, 0, none⟩) (by show B ≤ B + 2; omega) v'
  refine ⟨hbox1, hko, ⟨hbW, hko.walks, ?_⟩, ⟨?_, ?_, ⟨v', hbox1.set v', ?_⟩, hm.below.trans hbW, Nat.le_trans hs hbW.size⟩⟩
  · rw [hset _ (by omega), hlow _ (by omega)]
  · rw [hset _ (by omega), hlow _ (by omega)]; exact hm.r0
  · rw [hset _ (by omega), hlow _ (by omega)]; exact hm.r1
  · rw [mtokRow_snoc, List.length_append]
    exact ownsRow_setCell_below hown' (a := ⟨B + 2, 0, none⟩) (show B + 2 < B + 4 by omega) _
theorem mfin_cells {W1 : World} {B D : Nat} {v a b : Value} {t u : TypeId} (h0 : W1.heap[B]? = some (.cells #[v] t (0, 0))) (h1 : W1.heap[B + 1]? = some (.cells #[a, b] u (0, 0))) (hD : B + 4 ≤ D) (o : Obj) :
    (W1.putObj D o).cell? ⟨B, 0, none⟩ = some v ∧ (W1.putObj D o).cell? ⟨B + 1, 0, none⟩ = some a ∧ (W1.putObj D o).cell? ⟨B + 1, 1, none⟩ = some b := by
  have e0 : (W1.putObj D o).heap[B]? = some (.cells #[v] t (0, 0)) := (World.putObj_heap_other (fun e => by omega)).trans h0
  have e1 : (W1.putObj D o).heap[B + 1]? = some (.cells #[a, b] u (0, 0)) := (World.putObj_heap_other (fun e => by omega)).trans h1
  exact ⟨cell_heap e0 0, cell_heap e1 0, cell_heap e1 1⟩
set_option maxRecDepth 20000 in
set_option maxHeartbeats 1000000 in
theorem miScan_in (n : Nat) (hn : 4 ≤ n) (s : ByteArray) (w : World) (hl : s.size ≤ 12000) (hE : EnvM w) :
    CallsIn Fence.wide n Tryd.prog 6 #[.string s] w fun e w' => ∃ v, e = .returned (.tuple #[v, .agg #[.int .i64 (mscanR s.data.toList).2.1, .int .i64 (mscanR s.data.toList).2.2]]) ∧
      w'.ownsRow w.heap.size 39 5 v (mscanR s.data.toList).1.length (mtokRow (mscanR s.data.toList).1) ∧ Below w.heap.size w w' := by
  have h1 : 1 ≤ n := by omega
  refine callsIn_of_wp_marks Tryd.func6 rfl trivial ?_ rfl
  simp only [Tryd.ntmps6, List.size_toArray, List.length_cons, List.length_nil, Nat.reduceAdd, Nat.reduceSub, Array.replicate_succ, Array.replicate_zero, List.push_toArray, List.append_toArray, List.nil_append, List.cons_append]
  gi_wp2_with (refine ⟨trivial, ?_⟩; gi_at_call 18; refine (callsIn_wide.2 (millTokens_any _ _)).mono ?_; rintro e w' ⟨rfl, rfl⟩)
  have hE4 : Hid (EnvM ((((w.alloc (.cells #[.slice none 0 0] 22)).alloc (.cells #[.int .i64 0, .int .i64 0] 24)).alloc (.cells #[.slice none 0 0] 22)).alloc (.cells #[.string s] 9))) :=
    hE.below ((((((Below.refl _ w).alloc (Nat.le_refl _) _).alloc (by simp) _).alloc (by simp; omega) _).alloc (by simp; omega) _))
  have hsrc : Hid (((((w.alloc (.cells #[.slice none 0 0] 22)).alloc (.cells #[.int .i64 0, .int .i64 0] 24)).alloc (.cells #[.slice none 0 0] 22)).alloc (.cells #[.string s] 9)).cell? ⟨w.heap.size + 1 + 1 + 1, 0, none⟩ = some (.string s)) := by
    have h := cell_new_row (((w.alloc (.cells #[.slice none 0 0] 22)).alloc (.cells #[.int .i64 0, .int .i64 0] 24)).alloc (.cells #[.slice none 0 0] 22)) #[.string s] 9 0
    simp only [World.size_alloc] at h
    exact h
  have h6 : 6 ≤ w.heap.size := hE.size
  obtain ⟨i0, hi, hz0, hz1, hz2⟩ := info_parts info_mtok
  have HHI := hid (And.intro hi (And.intro hz0 (And.intro hz1 hz2)))
  clear hi hz0 hz1 hz2
  refine wpIn_rangeFunc_ownH rfl h1 (gf := 32) (lb := #[.pointer (some ⟨w.heap.size + 1 + 1 + 1, 0, none⟩)]) rfl trivial (enters_of Tryd.func32 (by kernel_rfl) rfl)
    (miter_stops (n - 1) (w.heap.size + 1 + 1 + 1) w.heap.size s hl (by omega) h6 _ hsrc.out hE4.out (by simp; omega)) Kp.trans (Kp.book (by simp; omega) (by simp)) (Below.refl _ _) (fun _ => rfl)
    (fun pre W => (∀ y ∈ pre, y.2.1 = 0) ∧ MMid w.heap.size w (pre.map (·.1)) W)
    (fun c pre W => c = .ret ∧ ∃ x pre', pre = pre' ++ [x] ∧ x.2.1 ≠ 0 ∧ MOut w.heap.size w x.2 W)
    ?hI ?hIx ?h0
    (fun x a' W => ∃ Bx, w.heap.size + 4 ≤ Bx ∧ W.heap[Bx]? = some (.cells #[.int .i64 x.1.kind, .string ⟨x.1.text.toArray⟩, .int .i64 x.1.ty, .int .i64 x.1.n, .int .i64 x.1.place] 39 (0, 0)) ∧ W.heap[Bx + 1]? = some (.cells #[.int .i64 x.2.1, .int .i64 x.2.2] 24 (0, 0)) ∧
      a' = { tmps := #[.string s, undef, .pointer (some ⟨w.heap.size, 0, none⟩), .pointer (some ⟨w.heap.size + 1, 0, none⟩), .pointer (some ⟨w.heap.size + 1 + 1, 0, none⟩), .pointer (some ⟨Bx, 0, none⟩), .pointer (some ⟨Bx + 1, 0, none⟩), .string s, .int .i64 s.size, .bool (decide (12000 < (s.size : Int))), undef, .string s, .func (.func 32) #[] #[.pointer (some ⟨w.heap.size + 1 + 1 + 1, 0, none⟩)], .agg #[.int .i64 x.1.kind, .string ⟨x.1.text.toArray⟩, .int .i64 x.1.ty, .int .i64 x.1.n, .int .i64 x.1.place], .agg #[.int .i64 x.2.1, .int .i64 x.2.2], undef, undef, undef, undef, undef, undef, undef, undef, undef, undef], defers := [] })
    ?hAx ?assign ?body ?done ?stop
  case hI =>
    intro pre W W' row hs hg hr
    exact ⟨hs.1, MMid.own w.heap.size w (Nat.le_refl _) _ W W' row hs.2 hg (fun r e => ⟨by have := (hr r e).1; simp at this; omega, (hr r e).2⟩)⟩
  case hIx =>
    rintro c pre W W' row ⟨hc, x, pre', hp, hx, ho⟩ hg hr
    exact ⟨hc, x, pre', hp, hx, MOut.own w.heap.size w (Nat.le_refl _) _ W W' row ho hg (fun r e => ⟨by have := (hr r e).1; simp at this; omega, (hr r e).2⟩)⟩
  case h0 =>
    refine ⟨fun y hy => by simp at hy, ⟨?_, ?_, ⟨.slice none 0 0, ?_, World.ownsRow_nil _ _ _ _⟩, ?_, by simp⟩⟩
    · rw [Below.heap_alloc _ _ _ (by simp; omega), Below.heap_alloc _ _ _ (by simp; try omega), Below.heap_alloc _ _ _ (by simp)]; exact heap_alloc_new w _
    · rw [Below.heap_alloc _ _ _ (by simp), Below.heap_alloc _ _ _ (by simp)]
      have h := heap_alloc_new (w.alloc (.cells #[.slice none 0 0] 22)) (.cells #[.int .i64 0, .int .i64 0] 24)
      rw [World.size_alloc] at h
      exact h
    · rw [Below.heap_alloc _ _ _ (by simp)]
      have h := heap_alloc_new ((w.alloc (.cells #[.slice none 0 0] 22)).alloc (.cells #[.int .i64 0, .int .i64 0] 24)) (.cells #[.slice none 0 0] 22)
      rw [World.size_alloc, World.size_alloc] at h
      exact h
    · exact ((((Below.refl _ w).alloc (Nat.le_refl _) _).alloc (by simp) _).alloc (by simp; omega) _).alloc (by simp; omega) _
  case hAx =>
    rintro x a' _ W W' row ⟨Bx, hBx, h1, h2, e⟩ hg hr
    exact ⟨Bx, hBx, kept_block hg (fun r e => (hr r e).2) h1 rfl, kept_block hg (fun r e => (hr r e).2) h2 rfl, e⟩
  case assign =>
    rintro l pre x W K ⟨hz, hmid⟩ hK
    have hsz := hmid.size
    simp only [mitemV]
    gi_wp2
    have hko := (KeepsOthers.alloc W (.cells #[.int .i64 x.1.kind, .string ⟨x.1.text.toArray⟩, .int .i64 x.1.ty, .int .i64 x.1.n, .int .i64 x.1.place] 39)).trans (KeepsOthers.alloc _ (.cells #[.int .i64 x.2.1, .int .i64 x.2.2] 24))
    refine hK _ _ (hko.from _) ⟨((Below.refl _ W).alloc (by omega) _).alloc (by simp; omega) _, hko.walks, ?_⟩ ⟨hz, ?_⟩ ⟨W.heap.size, by omega, ?_, ?_, rfl⟩
    · rw [Below.heap_alloc _ _ _ (by simp; omega), Below.heap_alloc _ _ _ (by omega)]
    · exact (MMid.own w.heap.size w (Nat.le_refl _)).alloc _ ((MMid.own w.heap.size w (Nat.le_refl _)).alloc _ hmid)
    · rw [Below.heap_alloc _ _ _ (by simp)]; exact heap_alloc_new W _
    · have h := heap_alloc_new (W.alloc (.cells #[.int .i64 x.1.kind, .string ⟨x.1.text.toArray⟩, .int .i64 x.1.ty, .int .i64 x.1.n, .int .i64 x.1.place] 39)) (.cells #[.int .i64 x.2.1, .int .i64 x.2.2] 24)
      rw [World.size_alloc] at h
      exact h
  case body =>
    rintro l pre x a' W hlN ⟨r, hr⟩ ⟨hz, hmid⟩ ⟨Bx, hBx, hx0, hx1, rfl⟩ hlt
    have c0 : W.cell? ⟨Bx, 0, none⟩ = some (.int .i64 x.1.kind) := cell_heap hx0 0
    have c1 : W.cell? ⟨Bx, 1, none⟩ = some (.string ⟨x.1.text.toArray⟩) := cell_heap hx0 1
    have c2 : W.cell? ⟨Bx, 2, none⟩ = some (.int .i64 x.1.ty) := cell_heap hx0 2
    have c3 : W.cell? ⟨Bx, 3, none⟩ = some (.int .i64 x.1.n) := cell_heap hx0 3
    have c4 : W.cell? ⟨Bx, 4, none⟩ = some (.int .i64 x.1.place) := cell_heap hx0 4
    have d0 : W.cell? ⟨Bx + 1, 0, none⟩ = some (.int .i64 x.2.1) := cell_heap hx1 0
    have d1 : W.cell? ⟨Bx + 1, 1, none⟩ = some (.int .i64 x.2.2) := cell_heap hx1 1
    have HMID := hid hmid
    have hsz := hmid.size
    obtain ⟨v, hv, hown⟩ := hmid.box
    have e0 : W.cell? ⟨w.heap.size + 1 + 1, 0, none⟩ = some v := cell_heap hv 0
    have HV := hid hv
    have OWN := hid hown
    clear hmid hown hv hr
    by_cases hx : x.2.1 = 0
    · have hx' : ((x.2.1 : Int) != 0) = false := by simp; omega
      have HX := hid hx
      clear hx hx0 hx1
      have hpl := mitems_len s.data.toList
      rw [len_size] at hpl
      gi_wp2_with (gi_at_builtin; refine wpListIn_append_own _ rfl (.tmp 19) (.tmp 21) 22 rfl (w.heap.size + 4) 39 i0 (.agg #[.int .i64 0, .string ⟨#[]⟩, .int .i64 0, .int .i64 0, .int .i64 0]) 5 48 Tryd.underlying22 HHI.out.1 HHI.out.2.1 HHI.out.2.2.1 HHI.out.2.2.2 rfl (by decide) _ _ _ rfl (OWN.out.alloc _) ⟨W.heap.size, 0, none⟩ 1 1 [.int .i64 x.1.kind, .string ⟨x.1.text.toArray⟩, .int .i64 x.1.ty, .int .i64 x.1.n, .int .i64 x.1.place] rfl rfl (cell_five_new _ _ _ _ _ _ _) (by simp [Value.oneCell']) (by unfold maxLen; rw [List.length_map]; omega) (by rw [List.length_map]; omega) (by simp; omega) ?_; intro v' w1 hown' hgrow _; obtain ⟨g', cap', hv'⟩ := ownsRow_succ hown'; subst hv'; have HAP := hid (mmid_app (t := x.1) HMID.out HV.out OWN.out hown' hgrow); have e1 : w1.cell? ⟨w.heap.size + 1 + 1, 0, none⟩ = some v := cell_heap HAP.out.1 0; have e2 : w1.frozen? ⟨w.heap.size + 1 + 1, 0, none⟩ = false := frozen_heap HAP.out.1 0; clear hown' hgrow)
      have HA := HAP.out
      rw [List.length_map] at HA
      refine ⟨HA.2.1.from _, HA.2.2.1, fun y hy => ?_, ?_⟩
      · rcases List.mem_append.1 hy with h | h
        · exact hz y h
        · rw [List.mem_singleton] at h; rw [h]; exact HX.out
      · rw [List.map_append]; exact HA.2.2.2
    · have hx' : ((x.2.1 : Int) != 0) = true := by simp; omega
      have HX := hid hx
      have r0 : W.cell? ⟨w.heap.size, 0, none⟩ = some (.slice none 0 0) := cell_heap HMID.out.r0 0
      have r1 : W.cell? ⟨w.heap.size + 1, 0, none⟩ = some (.int .i64 0) := cell_heap HMID.out.r1 0
      have r2 : W.cell? ⟨w.heap.size + 1, 1, none⟩ = some (.int .i64 0) := cell_heap HMID.out.r1 1
      have r3 : W.frozen? ⟨w.heap.size, 0, none⟩ = false := frozen_heap HMID.out.r0 0
      have r4 : W.frozen? ⟨w.heap.size + 1, 0, none⟩ = false := frozen_heap HMID.out.r1 0
      have r5 : W.frozen? ⟨w.heap.size + 1, 1, none⟩ = false := frozen_heap HMID.out.r1 1
      have hne1 : ¬ Bx + 1 = w.heap.size := by omega
      have hne2 : ¬ Bx + 1 = w.heap.size + 1 := by omega
      clear hx hx0 hx1
      gi_wp2
      have hmix : Tryd.prog.follows .mixedOrders = true := by kernel_rfl
      gi_region_with_o (fail)
      all_goals gi_wp2
      all_goals exact ⟨(mout_set HMID.out x.2).1.from _, rfl, x, pre, rfl, HX.out, (mout_set HMID.out x.2).2⟩
  case done =>
    rintro D ys W hD rfl ⟨hz, hmid⟩ hK
    have HR := hid (mitems_done s.data.toList (by rw [len_size]; exact hl) hz)
    obtain ⟨v, hv, hown⟩ := hmid.box
    have e0 : W.cell? ⟨w.heap.size + 1 + 1, 0, none⟩ = some v := cell_heap hv 0
    have r0 : W.cell? ⟨w.heap.size, 0, none⟩ = some (.slice none 0 0) := cell_heap hmid.r0 0
    have r1 : W.cell? ⟨w.heap.size + 1, 0, none⟩ = some (.int .i64 0) := cell_heap hmid.r1 0
    have r2 : W.cell? ⟨w.heap.size + 1, 1, none⟩ = some (.int .i64 0) := cell_heap hmid.r1 1
    have r3 : W.frozen? ⟨w.heap.size, 0, none⟩ = false := frozen_heap hmid.r0 0
    have r4 : W.frozen? ⟨w.heap.size + 1, 0, none⟩ = false := frozen_heap hmid.r1 0
    have r5 : W.frozen? ⟨w.heap.size + 1, 1, none⟩ = false := frozen_heap hmid.r1 1
    have HMID := hid hmid
    have OWN := hid hown
    have HK := hid hK
    obtain ⟨ao, cap, hvs⟩ := own_slice hown
    subst hvs
    clear hmid hown hv hz hK
    gi_wp2
    have hD4 : w.heap.size + 4 ≤ D := by simp at hD; omega
    have hK2 : (((W.setCell ⟨w.heap.size, 0, none⟩ (.slice ao (mitems s.data.toList).length cap)).setCell ⟨w.heap.size + 1, 0, none⟩ (.int .i64 0)).setCell ⟨w.heap.size + 1, 1, none⟩ (.int .i64 0)).heap[D]? = some (.deferred (some [])) := by
      rw [Below.heap_setCell _ _ _ _ (show D ≠ w.heap.size + 1 by omega), Below.heap_setCell _ _ _ _ (show D ≠ w.heap.size + 1 by omega), Below.heap_setCell _ _ _ _ (show D ≠ w.heap.size by omega)]; exact HK.out
    have f0 : (((W.setCell ⟨w.heap.size, 0, none⟩ (.slice ao (mitems s.data.toList).length cap)).setCell ⟨w.heap.size + 1, 0, none⟩ (.int .i64 0)).setCell ⟨w.heap.size + 1, 1, none⟩ (.int .i64 0)).heap[w.heap.size]? = some (.cells #[.slice ao (mitems s.data.toList).length cap] 22 (0, 0)) := by
      rw [Below.heap_setCell _ _ _ _ (show w.heap.size ≠ w.heap.size + 1 by omega), Below.heap_setCell _ _ _ _ (show w.heap.size ≠ w.heap.size + 1 by omega)]
      exact set_heap HMID.out.r0 _
    have f1 : (((W.setCell ⟨w.heap.size, 0, none⟩ (.slice ao (mitems s.data.toList).length cap)).setCell ⟨w.heap.size + 1, 0, none⟩ (.int .i64 0)).setCell ⟨w.heap.size + 1, 1, none⟩ (.int .i64 0)).heap[w.heap.size + 1]? = some (.cells #[.int .i64 0, .int .i64 0] 24 (0, 0)) := by
      have h0 : (W.setCell ⟨w.heap.size, 0, none⟩ (.slice ao (mitems s.data.toList).length cap)).heap[w.heap.size + 1]? = some (.cells #[.int .i64 0, .int .i64 0] 24 (0, 0)) := by
        rw [Below.heap_setCell _ _ _ _ (show w.heap.size + 1 ≠ w.heap.size by omega)]; exact HMID.out.r1
      exact set_heap (set_heap h0 _) _
    obtain ⟨q0, q1, q2⟩ := mfin_cells f0 f1 hD4 (.deferred none)
    refine ⟨by simp, .inl ⟨_, _, rfl, run_takeDeferred hK2, ?_⟩⟩
    refine ⟨.tuple #[.slice ao (mitems s.data.toList).length cap, .agg #[.int .i64 0, .int .i64 0]], by simp [results, Tryd.results6, go_sem, q0, q1, q2], _, by rw [HR.out]; rfl, ?_, ?_⟩
    · rw [HR.out]
      refine ownsRow_putObj ?_ _ hK2 rfl
      have ho := OWN.out
      rw [List.length_map] at ho ⊢
      exact own_base (ownsRow_setCell_below (ownsRow_setCell_below (ownsRow_setCell_below ho (a := ⟨w.heap.size, 0, none⟩) (show w.heap.size < w.heap.size + 4 by omega) _) (a := ⟨w.heap.size + 1, 0, none⟩) (show w.heap.size + 1 < w.heap.size + 4 by omega) _) (a := ⟨w.heap.size + 1, 1, none⟩) (show w.heap.size + 1 < w.heap.size + 4 by omega) _) (by omega)
    · refine Below.trans ?_ (belowK_b (w := w) (Nat.le_refl _) _ D _ _ (by omega) hK2 rfl rfl)
      exact ((HMID.out.below.setCell (p := ⟨w.heap.size, 0, none⟩) (Nat.le_refl _) _).setCell (p := ⟨w.heap.size + 1, 0, none⟩) (Nat.le_succ _) _).setCell (p := ⟨w.heap.size + 1, 1, none⟩) (Nat.le_succ _) _
  case stop =>
    rintro D c pre W hD hpre ⟨rfl, x, pre', rfl, hx, hout⟩ hK
    have HR := hid (mitems_stop s.data.toList (by rw [len_size]; exact hl) x (hpre.subset (by simp)) hx)
    have r0 : W.cell? ⟨w.heap.size, 0, none⟩ = some (.slice none 0 0) := cell_heap hout.r0 0
    have r1 : W.cell? ⟨w.heap.size + 1, 0, none⟩ = some (.int .i64 x.2.1) := cell_heap hout.r1 0
    have r2 : W.cell? ⟨w.heap.size + 1, 1, none⟩ = some (.int .i64 x.2.2) := cell_heap hout.r1 1
    have HOUT := hid hout
    have HK := hid hK
    clear hout hpre hx hK
    gi_wp2
    have hD4 : w.heap.size + 4 ≤ D := by simp at hD; omega
    obtain ⟨q0, q1, q2⟩ := mfin_cells HOUT.out.r0 HOUT.out.r1 hD4 (.deferred none)
    refine ⟨by simp, .inl ⟨_, _, rfl, run_takeDeferred HK.out, ?_⟩⟩
    refine ⟨.tuple #[.slice none 0 0, .agg #[.int .i64 x.2.1, .int .i64 x.2.2]], by simp [results, Tryd.results6, go_sem, q0, q1, q2], _, by rw [HR.out], ?_, ?_⟩
    · rw [HR.out]; exact World.ownsRow_nil _ _ _ _
    · exact HOUT.out.below.trans (belowK_b (w := w) (Nat.le_refl _) _ D _ _ (by omega) HK.out rfl rfl)
/-- The program's own MillScan. -/
theorem miScan_any (s : ByteArray) (w : World) (hl : s.size ≤ 12000) (hE : EnvM w) :
    Calls Tryd.prog 6 #[.string s] w fun e w' => ∃ v, e = .returned (.tuple #[v, .agg #[.int .i64 (mscanR s.data.toList).2.1, .int .i64 (mscanR s.data.toList).2.2]]) ∧
      w'.ownsRow w.heap.size 39 5 v (mscanR s.data.toList).1.length (mtokRow (mscanR s.data.toList).1) ∧ Below w.heap.size w w' :=
  callsIn_wide.1 (miScan_in 4 (Nat.le_refl _) s w hl hE)
end Go.Proofs.YtdhcjmlcpnljiaaDoor
