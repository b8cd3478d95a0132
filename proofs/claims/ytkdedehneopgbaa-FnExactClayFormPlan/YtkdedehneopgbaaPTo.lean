import Derived.Test.YtkdedehneopgbaaPTg
/-! Targets: copies. -/
namespace Go.Proofs.Ytkdedehneopgbaa
open Go.RowKit
set_option maxRecDepth 20000
theorem info_tg : (Try.prog.info? 34).map (fun i => (i.zero, i.size, i.bytes)) = some (some (.agg #[.string ⟨#[]⟩, .string ⟨#[]⟩, .string ⟨#[]⟩, .slice none 0 0, .slice none 0 0]), 5, 96) := by kernel_rfl
theorem block_at3 {w w1 : World} {X Y Z : Obj} (h : Below (w.heap.size + 1 + 1 + 1) (((w.alloc X).alloc Y).alloc Z) w1) :
    w1.heap[w.heap.size]? = some X ∧ w1.heap[w.heap.size + 1]? = some Y ∧ w1.heap[w.heap.size + 1 + 1]? = some Z := by
  refine ⟨?_, ?_, ?_⟩
  · rw [h.block _ (by omega), Below.heap_alloc _ _ _ (by simp; omega), Below.heap_alloc _ _ _ (by simp)]
    exact heap_alloc_new w X
  · rw [h.block _ (by omega), Below.heap_alloc _ _ _ (by simp)]
    have := heap_alloc_new (w.alloc X) Y
    rwa [World.size_alloc] at this
  · rw [h.block _ (by omega)]
    have := heap_alloc_new ((w.alloc X).alloc Y) Z
    rwa [World.size_alloc, World.size_alloc] at this
theorem TextsA.set {W : World} {ad : Option Addr} {N b i : Nat} {s : Nat → ByteArray} (h : TextsA W ad N s) (hb : ∀ a, ad = some a → a.block ≠ b) (v : Value) : TextsA (W.setCell ⟨b, i, none⟩ v) ad N s := by
  refine h.of_cells (by simp) fun a e _ p hp => ?_
  unfold World.cell? World.setCell
  simp only [Array.getElem?_modify]
  rw [if_neg (fun e2 => hb a e (by rw [← hp, ← e2]))]
theorem at_ne {g b : Nat} (h : g ≠ b) : ∀ a, (some (⟨g, 0, none⟩ : Addr)) = some a → a.block ≠ b := fun a e => by cases e; exact h
set_option maxHeartbeats 4000000 in
theorem toTarget_any (x : Tg) (ai ao : Option Addr) (ci co : Nat) (w : World) (hN : x.N ≤ 1048576) (hM : x.M ≤ 1048576) (h1 : TextsA w ai x.N x.ins) (h2 : TextsA w ao x.M x.outs) :
    Calls Try.prog 11 #[.agg #[.string x.name, .string x.tool, .string x.arg, .slice ai x.N ci, .slice ao x.M co]] w fun e w' => ∃ g k, e = .returned (.agg #[.string x.name, .string x.tool, .string x.arg, .slice (some ⟨g, 0, none⟩) x.N x.N, .slice (some ⟨k, 0, none⟩) x.M x.M]) ∧ TextsA w' (some ⟨g, 0, none⟩) x.N x.ins ∧ TextsA w' (some ⟨k, 0, none⟩) x.M x.outs ∧ w.heap.size ≤ g ∧ w.heap.size ≤ k ∧ Below w.heap.size w w' := by
  obtain ⟨n, t, q, N, ins, M, outs⟩ := x
  simp only at hN hM h1 h2
  obtain ⟨W0, hW0⟩ : ∃ W0, ((w.alloc (.cells #[.string n, .string t, .string q, .slice ai N ci, .slice ao M co] 32)).alloc (.cells #[.string ⟨#[]⟩, .string ⟨#[]⟩, .string ⟨#[]⟩, .slice none 0 0, .slice none 0 0] 34)).alloc (.cells #[.string ⟨#[]⟩, .string ⟨#[]⟩, .string ⟨#[]⟩, .slice none 0 0, .slice none 0 0] 34) = W0 := ⟨_, rfl⟩
  have HBW : Hid (Below w.heap.size w W0) := by
    show Below _ _ _
    rw [← hW0]
    exact (below_two' _ _ _).alloc (by simp; omega) _
  have hsz0 : W0.heap.size = w.heap.size + 1 + 1 + 1 := by rw [← hW0]; simp
  have HBK : Hid (W0.heap[w.heap.size]? = some (.cells #[.string n, .string t, .string q, .slice ai N ci, .slice ao M co] 32) ∧ W0.heap[w.heap.size + 1]? = some (.cells #[.string ⟨#[]⟩, .string ⟨#[]⟩, .string ⟨#[]⟩, .slice none 0 0, .slice none 0 0] 34) ∧ W0.heap[w.heap.size + 1 + 1]? = some (.cells #[.string ⟨#[]⟩, .string ⟨#[]⟩, .string ⟨#[]⟩, .slice none 0 0, .slice none 0 0] 34)) := by
    show _ ∧ _
    exact block_at3 (w := w) (by rw [← hW0]; exact Below.refl _ _)
  have H1 := hid h1
  have H2 := hid h2
  clear h1 h2
  have a0 : W0.cell? ⟨w.heap.size, 0, none⟩ = some (.string n) := row_cell HBK.out.1 0
  have a1 : W0.cell? ⟨w.heap.size, 1, none⟩ = some (.string t) := row_cell HBK.out.1 1
  have a2 : W0.cell? ⟨w.heap.size, 2, none⟩ = some (.string q) := row_cell HBK.out.1 2
  have a3 : W0.cell? ⟨w.heap.size, 3, none⟩ = some (.slice ai N ci) := row_cell HBK.out.1 3
  have o0 : W0.cell? ⟨w.heap.size + 1 + 1, 0, none⟩ = some (.string ⟨#[]⟩) := row_cell HBK.out.2.2 0
  have o1 : W0.cell? ⟨w.heap.size + 1 + 1, 1, none⟩ = some (.string ⟨#[]⟩) := row_cell HBK.out.2.2 1
  have o2 : W0.cell? ⟨w.heap.size + 1 + 1, 2, none⟩ = some (.string ⟨#[]⟩) := row_cell HBK.out.2.2 2
  have z0 : W0.frozen? ⟨w.heap.size + 1 + 1, 0, none⟩ = false := (row_room HBK.out.2.2 (i := 0) (by decide)).2
  have z1 : W0.frozen? ⟨w.heap.size + 1 + 1, 1, none⟩ = false := (row_room HBK.out.2.2 (i := 1) (by decide)).2
  have z2 : W0.frozen? ⟨w.heap.size + 1 + 1, 2, none⟩ = false := (row_room HBK.out.2.2 (i := 2) (by decide)).2
  go_enter Try.func11, Try.ntmps11
  go_wp2_with fail
  have HB1 := hid (below_set (below_set (below_set HBW.out (w.heap.size + 1 + 1) 0 (by omega) (.string n)) (w.heap.size + 1 + 1) 1 (by omega) (.string t)) (w.heap.size + 1 + 1) 2 (by omega) (.string q))
  have HK1 := hid (set_at (i := 2) (.string q) (set_at (i := 1) (.string t) (set_at (i := 0) (.string n) HBK.out.2.2)))
  have HP1 : Hid ((((W0.setCell ⟨w.heap.size + 1 + 1, 0, none⟩ (.string n)).setCell ⟨w.heap.size + 1 + 1, 1, none⟩ (.string t)).setCell ⟨w.heap.size + 1 + 1, 2, none⟩ (.string q)).heap[w.heap.size]? = some (.cells #[.string n, .string t, .string q, .slice ai N ci, .slice ao M co] 32)) := by
    show _ = _
    rw [Below.heap_setCell _ _ _ _ (by simp; omega), Below.heap_setCell _ _ _ _ (by simp; omega), Below.heap_setCell _ _ _ _ (by simp; omega)]
    exact HBK.out.1
  have HR1 : Hid ((((W0.setCell ⟨w.heap.size + 1 + 1, 0, none⟩ (.string n)).setCell ⟨w.heap.size + 1 + 1, 1, none⟩ (.string t)).setCell ⟨w.heap.size + 1 + 1, 2, none⟩ (.string q)).heap[w.heap.size + 1]? = some (.cells #[.string ⟨#[]⟩, .string ⟨#[]⟩, .string ⟨#[]⟩, .slice none 0 0, .slice none 0 0] 34)) := by
    show _ = _
    rw [Below.heap_setCell _ _ _ _ (by simp), Below.heap_setCell _ _ _ _ (by simp), Below.heap_setCell _ _ _ _ (by simp)]
    exact HBK.out.2.1
  have hs1 : (((W0.setCell ⟨w.heap.size + 1 + 1, 0, none⟩ (.string n)).setCell ⟨w.heap.size + 1 + 1, 1, none⟩ (.string t)).setCell ⟨w.heap.size + 1 + 1, 2, none⟩ (.string q)).heap.size = w.heap.size + 1 + 1 + 1 := by simp [hsz0]
  obtain ⟨W1, hW1⟩ : ∃ W1, ((W0.setCell ⟨w.heap.size + 1 + 1, 0, none⟩ (.string n)).setCell ⟨w.heap.size + 1 + 1, 1, none⟩ (.string t)).setCell ⟨w.heap.size + 1 + 1, 2, none⟩ (.string q) = W1 := ⟨_, rfl⟩
  rw [hW1] at HB1 HK1 HP1 HR1 hs1
  rw [hW1]
  clear hW1 a0 a1 a2 a3 o0 o1 o2 z0 z1 z2 HBK HBW hW0 hsz0
  refine (toTextS_all ai N ci ins W1 hN (H1.out.below HB1.out)).mono ?_
  rintro e w1 ⟨rfl, t1, l1, b1⟩
  rw [hs1] at t1 l1 b1 ⊢
  have HT1 := hid t1
  have HK2 := hid ((b1.block _ (by omega)).trans HK1.out)
  have HP2 := hid ((b1.block _ (by omega)).trans HP1.out)
  have HR2 := hid ((b1.block _ (by omega)).trans HR1.out)
  have HB2 := hid (HB1.out.trans (b1.mono (by omega)))
  have a4 : w1.cell? ⟨w.heap.size, 4, none⟩ = some (.slice ao M co) := row_cell HP2.out 4
  have o3 : w1.cell? ⟨w.heap.size + 1 + 1, 3, none⟩ = some (.slice none 0 0) := row_cell HK2.out 3
  have z3 : w1.frozen? ⟨w.heap.size + 1 + 1, 3, none⟩ = false := (row_room HK2.out (i := 3) (by simp)).2
  clear t1 b1 HK1 HP1 HR1 HB1 hs1
  go_wp2_with fail
  have HB3 := hid (below_set HB2.out (w.heap.size + 1 + 1) 3 (by omega) (.slice (some ⟨w.heap.size + 1 + 1 + 1, 0, none⟩) N N))
  have HK3 := hid (set_at (i := 3) (.slice (some ⟨w.heap.size + 1 + 1 + 1, 0, none⟩) N N) HK2.out)
  have HR3 : Hid ((w1.setCell ⟨w.heap.size + 1 + 1, 3, none⟩ (.slice (some ⟨w.heap.size + 1 + 1 + 1, 0, none⟩) N N)).heap[w.heap.size + 1]? = some (.cells #[.string ⟨#[]⟩, .string ⟨#[]⟩, .string ⟨#[]⟩, .slice none 0 0, .slice none 0 0] 34)) := by
    show _ = _
    rw [Below.heap_setCell _ _ _ _ (by simp)]
    exact HR2.out
  have HT3 := hid (HT1.out.set (i := 3) (at_ne (b := w.heap.size + 1 + 1) (by omega)) (.slice (some ⟨w.heap.size + 1 + 1 + 1, 0, none⟩) N N))
  have hs3 : (w1.setCell ⟨w.heap.size + 1 + 1, 3, none⟩ (.slice (some ⟨w.heap.size + 1 + 1 + 1, 0, none⟩) N N)).heap.size = w1.heap.size := by simp
  obtain ⟨W3, hW3⟩ : ∃ W3, w1.setCell ⟨w.heap.size + 1 + 1, 3, none⟩ (.slice (some ⟨w.heap.size + 1 + 1 + 1, 0, none⟩) N N) = W3 := ⟨_, rfl⟩
  rw [hW3] at HB3 HK3 HR3 HT3 hs3
  rw [hW3]
  clear hW3 a4 o3 z3 HB2 HK2 HR2 HT1 HP2
  refine (toTextS_all ao M co outs W3 hM (H2.out.below HB3.out)).mono ?_
  rintro e w2 ⟨rfl, t2, l2, b2⟩
  have HT4 := hid t2
  have HT5 := hid (HT3.out.below b2)
  have HK4 := hid ((b2.block _ (by omega)).trans HK3.out)
  have HR4 := hid ((b2.block _ (by omega)).trans HR3.out)
  have HB4 := hid (HB3.out.trans (b2.mono (by omega)))
  obtain ⟨k, hk⟩ : ∃ k, W3.heap.size = k := ⟨_, rfl⟩
  rw [hk] at HT4 l2 ⊢
  have hkk : w.heap.size + 1 + 1 + 1 < k := by omega
  have o0 : w2.cell? ⟨w.heap.size + 1 + 1, 0, none⟩ = some (.string n) := row_cell HK4.out 0
  have o1 : w2.cell? ⟨w.heap.size + 1 + 1, 1, none⟩ = some (.string t) := row_cell HK4.out 1
  have o2 : w2.cell? ⟨w.heap.size + 1 + 1, 2, none⟩ = some (.string q) := row_cell HK4.out 2
  have o3 : w2.cell? ⟨w.heap.size + 1 + 1, 3, none⟩ = some (.slice (some ⟨w.heap.size + 1 + 1 + 1, 0, none⟩) N N) := row_cell HK4.out 3
  have o4 : w2.cell? ⟨w.heap.size + 1 + 1, 4, none⟩ = some (.slice none 0 0) := row_cell HK4.out 4
  have z4 : w2.frozen? ⟨w.heap.size + 1 + 1, 4, none⟩ = false := (row_room HK4.out (i := 4) (by simp)).2
  have r0 : w2.cell? ⟨w.heap.size + 1, 0, none⟩ = some (.string ⟨#[]⟩) := row_cell HR4.out 0
  have r1 : w2.cell? ⟨w.heap.size + 1, 1, none⟩ = some (.string ⟨#[]⟩) := row_cell HR4.out 1
  have r2 : w2.cell? ⟨w.heap.size + 1, 2, none⟩ = some (.string ⟨#[]⟩) := row_cell HR4.out 2
  have r3 : w2.cell? ⟨w.heap.size + 1, 3, none⟩ = some (.slice none 0 0) := row_cell HR4.out 3
  have r4 : w2.cell? ⟨w.heap.size + 1, 4, none⟩ = some (.slice none 0 0) := row_cell HR4.out 4
  have y0 : w2.frozen? ⟨w.heap.size + 1, 0, none⟩ = false := (row_room HR4.out (i := 0) (by decide)).2
  have y1 : w2.frozen? ⟨w.heap.size + 1, 1, none⟩ = false := (row_room HR4.out (i := 1) (by decide)).2
  have y2 : w2.frozen? ⟨w.heap.size + 1, 2, none⟩ = false := (row_room HR4.out (i := 2) (by decide)).2
  have y3 : w2.frozen? ⟨w.heap.size + 1, 3, none⟩ = false := (row_room HR4.out (i := 3) (by decide)).2
  have y4 : w2.frozen? ⟨w.heap.size + 1, 4, none⟩ = false := (row_room HR4.out (i := 4) (by decide)).2
  clear t2 b2 HT3 HK3 HR3 HB3 hk hs3 HK4 HR4
  go_wp2
  refine bodyPost_ret (v := .agg #[.string n, .string t, .string q, .slice (some ⟨w.heap.size + 1 + 1 + 1, 0, none⟩) N N, .slice (some ⟨k, 0, none⟩) M M]) (by simp [results, Try.results11, go_sem, r0, r1, r2, r3, r4]) rfl ⟨w.heap.size + 1 + 1 + 1, k, rfl, ?_, ?_, by omega, by omega, ?_⟩
  · exact (((((HT5.out.set (at_ne (by omega)) _).set (at_ne (by omega)) _).set (at_ne (by omega)) _).set (at_ne (by omega)) _).set (at_ne (by omega)) _).set (at_ne (by omega)) _
  · exact (((((HT4.out.set (at_ne (by omega)) _).set (at_ne (by omega)) _).set (at_ne (by omega)) _).set (at_ne (by omega)) _).set (at_ne (by omega)) _).set (at_ne (by omega)) _
  · exact below_set (below_set (below_set (below_set (below_set (below_set HB4.out _ _ (by omega) _) _ _ (by omega) _) _ _ (by omega) _) _ _ (by omega) _) _ _ (by omega) _) _ _ (by omega) _
/-- A row of n targets that is being filled: block g has n * 5 cells; the first j targets are there, their texts in other blocks. -/
def FillG (W : World) (g n j : Nat) (f : Nat → Tg) : Prop := (∃ cur, W.heap[g]? = some (.cells cur 34 (0, 0)) ∧ cur.size = n * 5) ∧ ∀ i, i < j → FiveT W (fun ad => ∀ a, ad = some a → a.block ≠ g) ⟨g, i * 5, none⟩ (f i)
theorem fillG_step {W : World} {g N j p k : Nat} {f : Nat → Tg} {cur : Array Value} (h : W.heap[g]? = some (.cells cur 34 (0, 0)) ∧ cur.size = N * 5) (hno : ∀ i, i < j → FiveT W (fun ad => ∀ a, ad = some a → a.block ≠ g) ⟨g, i * 5, none⟩ (f i)) (hj : j < N)
    (hp : p ≠ g) (hk : k ≠ g) (h1 : TextsA W (some ⟨p, 0, none⟩) (f j).N (f j).ins) (h2 : TextsA W (some ⟨k, 0, none⟩) (f j).M (f j).outs) :
    FillG (((((W.setCell ⟨g, j * 5, none⟩ (.string (f j).name)).setCell ⟨g, j * 5 + 1, none⟩ (.string (f j).tool)).setCell ⟨g, j * 5 + 2, none⟩ (.string (f j).arg)).setCell ⟨g, j * 5 + 3, none⟩ (.slice (some ⟨p, 0, none⟩) (f j).N (f j).N)).setCell ⟨g, j * 5 + 4, none⟩ (.slice (some ⟨k, 0, none⟩) (f j).M (f j).M)) g N (j + 1) f := by
  obtain ⟨hc, hs⟩ := h
  have e := set_at (.slice (some ⟨k, 0, none⟩) (f j).M (f j).M) (i := j * 5 + 4) (set_at (.slice (some ⟨p, 0, none⟩) (f j).N (f j).N) (i := j * 5 + 3) (set_at (.string (f j).arg) (i := j * 5 + 2) (set_at (.string (f j).tool) (i := j * 5 + 1) (set_at (.string (f j).name) (i := j * 5) hc))))
  refine ⟨⟨_, e, by simp [hs]⟩, ?_⟩
  have c := row_cell e
  have o := row_cell hc
  have tx : ∀ {ad : Option Addr} {n : Nat} {s : Nat → ByteArray}, (∀ a, ad = some a → a.block ≠ g) → TextsA W ad n s → TextsA (((((W.setCell ⟨g, j * 5, none⟩ (.string (f j).name)).setCell ⟨g, j * 5 + 1, none⟩ (.string (f j).tool)).setCell ⟨g, j * 5 + 2, none⟩ (.string (f j).arg)).setCell ⟨g, j * 5 + 3, none⟩ (.slice (some ⟨p, 0, none⟩) (f j).N (f j).N)).setCell ⟨g, j * 5 + 4, none⟩ (.slice (some ⟨k, 0, none⟩) (f j).M (f j).M)) ad n s := fun ha h =>
    ((((h.set ha _).set ha _).set ha _).set ha _).set ha _
  have far : ∀ m, m < j * 5 → (((((cur.setIfInBounds (j * 5) (.string (f j).name)).setIfInBounds (j * 5 + 1) (.string (f j).tool)).setIfInBounds (j * 5 + 2) (.string (f j).arg)).setIfInBounds (j * 5 + 3) (.slice (some ⟨p, 0, none⟩) (f j).N (f j).N)).setIfInBounds (j * 5 + 4) (.slice (some ⟨k, 0, none⟩) (f j).M (f j).M))[m]? = cur[m]? := fun m hm => by
    rw [Array.getElem?_setIfInBounds_ne (by omega), Array.getElem?_setIfInBounds_ne (by omega), Array.getElem?_setIfInBounds_ne (by omega), Array.getElem?_setIfInBounds_ne (by omega), Array.getElem?_setIfInBounds_ne (by omega)]
  intro i hi
  rcases Nat.lt_or_eq_of_le (Nat.lt_succ_iff.1 hi) with h | h
  · obtain ⟨ai, ci, ao, co, ⟨d0, d1, d2, d3, d4⟩, t1, t2, n1, n2⟩ := hno i h
    rw [o] at d0 d1 d2 d3 d4
    exact ⟨ai, ci, ao, co, ⟨(c (i * 5)).trans ((far _ (by omega)).trans d0), (c (i * 5 + 1)).trans ((far _ (by omega)).trans d1), (c (i * 5 + 2)).trans ((far _ (by omega)).trans d2), (c (i * 5 + 3)).trans ((far _ (by omega)).trans d3), (c (i * 5 + 4)).trans ((far _ (by omega)).trans d4)⟩, tx n1 t1, tx n2 t2, n1, n2⟩
  · subst h
    have hb : i * 5 + 4 < cur.size := by rw [hs]; omega
    refine ⟨some ⟨p, 0, none⟩, (f i).N, some ⟨k, 0, none⟩, (f i).M, ⟨?_, ?_, ?_, ?_, ?_⟩, tx (at_ne hp) h1, tx (at_ne hk) h2, at_ne hp, at_ne hk⟩
    · refine (c (i * 5)).trans ?_
      rw [Array.getElem?_setIfInBounds_ne (by omega), Array.getElem?_setIfInBounds_ne (by omega), Array.getElem?_setIfInBounds_ne (by omega), Array.getElem?_setIfInBounds_ne (by omega), Array.getElem?_setIfInBounds_self_of_lt (by omega)]
    · refine (c (i * 5 + 1)).trans ?_
      rw [Array.getElem?_setIfInBounds_ne (by omega), Array.getElem?_setIfInBounds_ne (by omega), Array.getElem?_setIfInBounds_ne (by omega), Array.getElem?_setIfInBounds_self_of_lt (by simp; omega)]
    · refine (c (i * 5 + 2)).trans ?_
      rw [Array.getElem?_setIfInBounds_ne (by omega), Array.getElem?_setIfInBounds_ne (by omega), Array.getElem?_setIfInBounds_self_of_lt (by simp; omega)]
    · refine (c (i * 5 + 3)).trans ?_
      rw [Array.getElem?_setIfInBounds_ne (by omega), Array.getElem?_setIfInBounds_self_of_lt (by simp; omega)]
    · refine (c (i * 5 + 4)).trans ?_
      rw [Array.getElem?_setIfInBounds_self_of_lt (by simp; omega)]
set_option maxHeartbeats 2000000 in
theorem toTargetS_any (a : Addr) (N cap : Nat) (f : Nat → Tg) (w : World) (hN : N ≤ 1048576) (hx : ∀ i, i < N → (f i).N ≤ 1048576 ∧ (f i).M ≤ 1048576) (ha : a.block < w.heap.size) (hn : ∀ i, i < N → FiveT w (fun _ => True) (a.add (i * 5)) (f i)) :
    Calls Try.prog 6 #[.slice (some a) N cap] w fun e w' => e = .returned (.slice (some ⟨w.heap.size, 0, none⟩) N N) ∧ TgsA w' (some ⟨w.heap.size, 0, none⟩) N f ∧ Below w.heap.size w w' := by
  have HN := hid hn
  have HX := hid hx
  clear hn hx
  obtain ⟨i0, hi, hz0, hz1, hz2⟩ := info_parts info_tg
  have HHI := hid (And.intro hi (And.intro hz0 (And.intro hz1 hz2)))
  clear hi hz0 hz1
  go_enter Try.func6, Try.ntmps6
  go_wp2_with (at_make; refine wpList_make_full _ rfl _ _ 25 rfl w.heap.size 34 i0 (.agg #[.string ⟨#[]⟩, .string ⟨#[]⟩, .string ⟨#[]⟩, .slice none 0 0, .slice none 0 0]) 5 Try.underlying25 HHI.out.1 HHI.out.2.1 HHI.out.2.2.1 _ _ _ _ N rfl rfl rfl rfl (by rw [hz2]; omega) (by unfold maxLen; omega) (Nat.le_refl _) ?_; intro w1 o1 g1)
  have HF0 : Hid (FillG w1 w.heap.size N 0 f) := by
    obtain ⟨h1, ⟨h2, _⟩ | ⟨g, c, cur, e, _, h4, _, _, h7, _⟩⟩ := o1
    · cases h2
    · cases e
      exact ⟨⟨cur, h4, h7⟩, fun i h => absurd h (Nat.not_lt_zero _)⟩
  have HB0 := hid ((Below.refl w.heap.size w).grown g1 (Nat.le_refl _) (fun q e => by cases e))
  clear o1 g1
  go_loopw [4] (fun i wr => ∃ j : Nat, j ≤ N ∧ i = .int .i64 j ∧ FillG wr w.heap.size N j f ∧ Below w.heap.size w wr) (fun i _ => N - (intOf i).toNat)
  case atStart => exact ⟨0, Nat.zero_le _, rfl, HF0.out, HB0.out⟩
  case round =>
    obtain ⟨j, hj, rfl, hfi, hbw⟩ := hrel
    have HFI := hid hfi
    have HBW := hid hbw
    have hgl : w.heap.size < wr.heap.size := by obtain ⟨⟨_, hc, _⟩, _⟩ := hfi; exact (Array.getElem?_eq_some_iff.1 hc).1
    clear hfi hbw
    by_cases hlt : j < N
    · obtain ⟨ai, ci, ao, co, ⟨c0, c1, c2, c3, c4⟩, t1, t2, _⟩ : FiveT wr (fun _ => True) (a.add (j * 5)) (f j) := (HN.out j hlt).below (by rw [add_block]; exact ha) HBW.out
      have HTX := hid (And.intro t1 t2)
      clear t1 t2
      go_wp2_with fail
      refine (toTarget_any (f j) ai ao ci co _ (HX.out j hlt).1 (HX.out j hlt).2 HTX.out.1 HTX.out.2).mono ?_
      rintro e w2 ⟨p, k, rfl, t1, t2, hp, hk, hb2⟩
      have HB2 := hid hb2
      have HT2 := hid (And.intro t1 t2)
      obtain ⟨⟨cur, hcur, hsz⟩, hno⟩ := HFI.out
      have hcur2 := (hb2.block _ (Array.getElem?_eq_some_iff.1 hcur).1).trans hcur
      have HCUR := hid (And.intro hcur2 hsz)
      have HNO := hid (fun i hi => (hno i hi).below hgl hb2)
      obtain ⟨⟨v0, x0⟩, y0⟩ := row_room hcur2 (i := j * 5) (by omega)
      obtain ⟨⟨v1, x1⟩, y1⟩ := row_room hcur2 (i := j * 5 + 1) (by omega)
      obtain ⟨⟨v2, x2⟩, y2⟩ := row_room hcur2 (i := j * 5 + 2) (by omega)
      obtain ⟨⟨v3, x3⟩, y3⟩ := row_room hcur2 (i := j * 5 + 3) (by omega)
      obtain ⟨⟨v4, x4⟩, y4⟩ := row_room hcur2 (i := j * 5 + 4) (by omega)
      clear hb2 hcur hcur2 hno t1 t2 c0 c1 c2 c3 c4
      go_wp2
      have HNX := hid (fillG_step HCUR.out HNO.out hlt (by omega) (by omega) HT2.out.1 HT2.out.2)
      have HBX := hid (HBW.out.trans (HB2.out.mono HBW.out.size))
      go_roundw
      case rel => exact ⟨j + 1, by omega, by go_num, HNX.out, below_set (below_set (below_set (below_set (below_set HBX.out _ _ (Nat.le_refl _) _) _ _ (Nat.le_refl _) _) _ _ (Nat.le_refl _) _) _ _ (Nat.le_refl _) _) _ _ (Nat.le_refl _) _⟩
      case measure => simp [intOf]; omega
    · obtain rfl : j = N := by omega
      go_wp2
      go_ret
      refine ⟨rfl, .inr ⟨_, rfl, hgl, fun i hi => ?_⟩, HBW.out⟩
      obtain ⟨ai, ci, ao, co, h1, h2, h3, _⟩ := HFI.out.2 i hi
      rw [add_at]
      exact ⟨ai, ci, ao, co, h1, h2, h3, trivial, trivial⟩
set_option maxHeartbeats 1000000 in
theorem toTargetS_none (ad : Option Addr) (cap : Nat) (f : Nat → Tg) (w : World) :
    Calls Try.prog 6 #[.slice ad 0 cap] w fun e w' => e = .returned (.slice (some ⟨w.heap.size, 0, none⟩) 0 0) ∧ TgsA w' (some ⟨w.heap.size, 0, none⟩) 0 f ∧ Below w.heap.size w w' := by
  obtain ⟨i0, hi, hz0, hz1, hz2⟩ := info_parts info_tg
  have HHI := hid (And.intro hi (And.intro hz0 hz1))
  clear hi hz0 hz1
  go_enter Try.func6, Try.ntmps6
  go_wp2_with (at_make; refine wpList_make_full _ rfl _ _ 25 rfl w.heap.size 34 i0 (.agg #[.string ⟨#[]⟩, .string ⟨#[]⟩, .string ⟨#[]⟩, .slice none 0 0, .slice none 0 0]) 5 Try.underlying25 HHI.out.1 HHI.out.2.1 HHI.out.2.2 _ _ _ _ 0 rfl rfl rfl rfl (by omega) (by unfold maxLen; omega) (Nat.le_refl _) ?_; intro w1 o1 g1)
  have HB0 := hid ((Below.refl w.heap.size w).grown g1 (Nat.le_refl _) (fun q e => by cases e))
  clear o1 g1
  go_loopw [4] (fun i wr => i = .int .i64 0 ∧ wr = w1) (fun _ _ => 0)
  case atStart => exact ⟨rfl, rfl⟩
  case round =>
    obtain ⟨rfl, rfl⟩ := hrel
    go_wp2
    go_ret
    exact ⟨rfl, .inl rfl, HB0.out⟩
theorem toTargetS_all (ad : Option Addr) (N cap : Nat) (f : Nat → Tg) (w : World) (hN : N ≤ 1048576) (hx : ∀ i, i < N → (f i).N ≤ 1048576 ∧ (f i).M ≤ 1048576) (hn : TgsA w ad N f) :
    Calls Try.prog 6 #[.slice ad N cap] w fun e w' => e = .returned (.slice (some ⟨w.heap.size, 0, none⟩) N N) ∧ TgsA w' (some ⟨w.heap.size, 0, none⟩) N f ∧ Below w.heap.size w w' := by
  rcases hn with rfl | ⟨a, rfl, h1, h2⟩
  · exact toTargetS_none ad cap f w
  · exact toTargetS_any a N cap f w hN hx h1 h2
end Go.Proofs.Ytkdedehneopgbaa
