import Derived.Test.YtfbfmhmpoaplaaaDoorNSpec
namespace Go.Proofs.YtfbfmhmpoaplaaaDoor
open Go.RowKit
set_option maxRecDepth 20000
/-- The two boxes of a function of one value that answers a value and a word. -/
theorem two_boxes {w W : World} {u v : Value} {t t' : TypeId} (h : Below (w.heap.size + 1 + 1) ((w.alloc (.cells #[u] t)).alloc (.cells #[v] t')) W) : (W.cell? ⟨w.heap.size, 0, none⟩ = some u ∧ W.cell? ⟨w.heap.size + 1, 0, none⟩ = some v ∧ W.frozen? ⟨w.heap.size + 1, 0, none⟩ = false) ∧ Below w.heap.size w W := by
  have e2 : W.heap[w.heap.size + 1]? = some (.cells #[v] t') := by
    rw [h.block _ (by omega)]
    have := heap_alloc_new (w.alloc (.cells #[u] t)) (.cells #[v] t')
    rwa [World.size_alloc] at this
  have e1 : W.heap[w.heap.size]? = some (.cells #[u] t) := by
    rw [h.block _ (by omega), Below.heap_alloc _ _ _ (by simp)]
    exact heap_alloc_new w (.cells #[u] t)
  refine ⟨⟨?_, ?_, ?_⟩, (below_two' w _ _).trans (h.mono (by omega))⟩
  · unfold World.cell?; rw [e1]; rfl
  · unfold World.cell?; rw [e2]; rfl
  · unfold World.frozen?; rw [e2]; rfl
def wType : ByteArray := ⟨#[116, 121, 112, 101]⟩
set_option maxHeartbeats 4000000 in
theorem specUn_type (op : Int) (b o N cap : Nat) (l : List At) (w : World) (hl : l.length = N) (hcap : N ≤ cap) (hcm : cap ≤ 1048576) (hb : b < w.heap.size) (hn : AtomsAt w b o l) (hx : ∀ x ∈ l, x.text.size ≤ maxLen)
    (hno : ¬ ∃ t, l = flat t ∧ ValidV l ∧ (op = 1 ∧ t.kind = 2 ∨ op = 2 ∧ t.kind = 3)) :
    Calls Tryd.prog 13 #[.int .i64 op, .agg #[.slice (some ⟨b, o, none⟩) N cap]] w fun e w' => e = .returned (.tuple #[.agg #[.slice none 0 0], .string wType]) ∧ Below w.heap.size w w' := by
  have HC1 : Hid (∀ W, Below w.heap.size w W → Calls Tryd.prog 7 #[.agg #[.slice (some ⟨b, o, none⟩) N cap]] W fun e w' => Says e (ValidV l) ∧ Below W.heap.size W w') := fun W hW => specValue_any b o N cap l W hl hcap hcm (by have := hW.size; omega) (hn.below hW hb) hx
  have HBR := hid (Below.refl (w.heap.size + 1 + 1) ((w.alloc (.cells #[.slice (some ⟨b, o, none⟩) N cap] 29)).alloc (.cells #[.slice none 0 0] 29)))
  have HST : Hid (∀ W W', Below (w.heap.size + 1 + 1) ((w.alloc (.cells #[.slice (some ⟨b, o, none⟩) N cap] 29)).alloc (.cells #[.slice none 0 0] 29)) W → Below W.heap.size W W' → Below (w.heap.size + 1 + 1) ((w.alloc (.cells #[.slice (some ⟨b, o, none⟩) N cap] 29)).alloc (.cells #[.slice none 0 0] 29)) W') := fun W W' h h2 => h.trans (h2.mono (by have := h.size; simpa using this))
  have HB0 := HBR
  by_cases hv : ValidV l
  · obtain ⟨t, e1, _, _⟩ := hv.2
    have hq : ¬ (op = 1 ∧ t.kind = 2 ∨ op = 2 ∧ t.kind = 3) := fun h => hno ⟨t, e1, hv, h⟩
    obtain ⟨h3, _, h4⟩ := flat_last (e1.trans (congrArg flat (Tr.eta t))) hl
    have HK : Hid (∀ W, Below w.heap.size w W → Calls Tryd.prog 24 #[.agg #[.slice (some ⟨b, o, none⟩) N cap]] W fun e w' => e = .returned (.int .i64 t.kind) ∧ Below W.heap.size W w') := fun W hW => l6Kind_any b o N cap _ W h3 (by omega) (by have := hW.size; omega) ((hn.below hW hb) _ _ h4)
    clear hn hx hl hno h4 e1
    by_cases o1 : op = 1
    · subst o1
      have k2 : (t.kind == 2) = false := by simp; omega
      clear hq
      go_enter Tryd.func13, Tryd.ntmps13
      go_wp2_with fail
      refine (HC1.out _ (two_boxes HB0.out).2).mono ?_
      rintro e w1 ⟨hs, hb1⟩
      obtain rfl := hs.pos hv
      clear hs
      have HB1 := hid (HST.out _ _ HB0.out hb1)
      obtain ⟨p1, q1, f1⟩ := (two_boxes HB1.out).1
      clear hb1
      go_wp2_with fail
      refine (HK.out _ (two_boxes HB1.out).2).mono ?_
      rintro e w2 ⟨rfl, hb2⟩
      have HB2 := hid (HST.out _ _ HB1.out hb2)
      obtain ⟨p2, q2, f2⟩ := (two_boxes HB2.out).1
      clear hb2
      go_wp2_with fail
      refine (HC1.out _ (two_boxes HB2.out).2).mono ?_
      rintro e w3 ⟨hs, hb3⟩
      obtain rfl := hs.pos hv
      clear hs
      have HB3 := hid (HST.out _ _ HB2.out hb3)
      obtain ⟨p3, q3, f3⟩ := (two_boxes HB3.out).1
      clear hb3
      go_wp2_with fail
      refine (l6No_any _ _).mono ?_
      rintro e w9 ⟨rfl, hb9⟩
      have HB9 := hid (HST.out _ _ HB3.out hb9)
      obtain ⟨p9, q9, f9⟩ := (two_boxes HB9.out).1
      clear hb9
      go_wp2
      refine bodyPost_ret (v := .tuple #[.agg #[.slice none 0 0], .string wType]) (by simp [results, Tryd.results13, go_sem, q9, wType]) rfl ⟨rfl, ?_⟩
      exact below_set (two_boxes HB9.out).2 _ _ (by omega) _
    · have n1 : (op == 1) = false := by simpa using o1
      by_cases o2 : op = 2
      · subst o2
        have k3 : (t.kind == 3) = false := by simp; omega
        clear hq o1
        go_enter Tryd.func13, Tryd.ntmps13
        go_wp2_with fail
        refine (HC1.out _ (two_boxes HB0.out).2).mono ?_
        rintro e w1 ⟨hs, hb1⟩
        obtain rfl := hs.pos hv
        clear hs
        have HB1 := hid (HST.out _ _ HB0.out hb1)
        obtain ⟨p1, q1, f1⟩ := (two_boxes HB1.out).1
        clear hb1
        go_wp2_with fail
        refine (HC1.out _ (two_boxes HB1.out).2).mono ?_
        rintro e w2 ⟨hs, hb2⟩
        obtain rfl := hs.pos hv
        clear hs
        have HB2 := hid (HST.out _ _ HB1.out hb2)
        obtain ⟨p2, q2, f2⟩ := (two_boxes HB2.out).1
        clear hb2
        go_wp2_with fail
        refine (HK.out _ (two_boxes HB2.out).2).mono ?_
        rintro e w3 ⟨rfl, hb3⟩
        have HB3 := hid (HST.out _ _ HB2.out hb3)
        obtain ⟨p3, q3, f3⟩ := (two_boxes HB3.out).1
        clear hb3
        go_wp2_with fail
        refine (l6No_any _ _).mono ?_
        rintro e w9 ⟨rfl, hb9⟩
        have HB9 := hid (HST.out _ _ HB3.out hb9)
        obtain ⟨p9, q9, f9⟩ := (two_boxes HB9.out).1
        clear hb9
        go_wp2
        refine bodyPost_ret (v := .tuple #[.agg #[.slice none 0 0], .string wType]) (by simp [results, Tryd.results13, go_sem, q9, wType]) rfl ⟨rfl, ?_⟩
        exact below_set (two_boxes HB9.out).2 _ _ (by omega) _
      · have n2 : (op == 2) = false := by simpa using o2
        clear hq o1 o2
        go_enter Tryd.func13, Tryd.ntmps13
        go_wp2_with fail
        refine (HC1.out _ (two_boxes HB0.out).2).mono ?_
        rintro e w1 ⟨hs, hb1⟩
        obtain rfl := hs.pos hv
        clear hs
        have HB1 := hid (HST.out _ _ HB0.out hb1)
        obtain ⟨p1, q1, f1⟩ := (two_boxes HB1.out).1
        clear hb1
        go_wp2_with fail
        refine (HC1.out _ (two_boxes HB1.out).2).mono ?_
        rintro e w2 ⟨hs, hb2⟩
        obtain rfl := hs.pos hv
        clear hs
        have HB2 := hid (HST.out _ _ HB1.out hb2)
        obtain ⟨p2, q2, f2⟩ := (two_boxes HB2.out).1
        clear hb2
        go_wp2_with fail
        refine (l6No_any _ _).mono ?_
        rintro e w9 ⟨rfl, hb9⟩
        have HB9 := hid (HST.out _ _ HB2.out hb9)
        obtain ⟨p9, q9, f9⟩ := (two_boxes HB9.out).1
        clear hb9
        go_wp2
        refine bodyPost_ret (v := .tuple #[.agg #[.slice none 0 0], .string wType]) (by simp [results, Tryd.results13, go_sem, q9, wType]) rfl ⟨rfl, ?_⟩
        exact below_set (two_boxes HB9.out).2 _ _ (by omega) _
  · clear hn hx hl hno
    go_enter Tryd.func13, Tryd.ntmps13
    go_wp2_with fail
    refine (HC1.out _ (two_boxes HB0.out).2).mono ?_
    rintro e w1 ⟨hs, hb1⟩
    obtain rfl := hs.neg hv
    clear hs
    have HB1 := hid (HST.out _ _ HB0.out hb1)
    obtain ⟨p1, q1, f1⟩ := (two_boxes HB1.out).1
    clear hb1
    go_wp2_with fail
    refine (HC1.out _ (two_boxes HB1.out).2).mono ?_
    rintro e w2 ⟨hs, hb2⟩
    obtain rfl := hs.neg hv
    clear hs
    have HB2 := hid (HST.out _ _ HB1.out hb2)
    obtain ⟨p2, q2, f2⟩ := (two_boxes HB2.out).1
    clear hb2
    go_wp2_with fail
    refine (l6No_any _ _).mono ?_
    rintro e w9 ⟨rfl, hb9⟩
    have HB9 := hid (HST.out _ _ HB2.out hb9)
    obtain ⟨p9, q9, f9⟩ := (two_boxes HB9.out).1
    clear hb9
    go_wp2
    refine bodyPost_ret (v := .tuple #[.agg #[.slice none 0 0], .string wType]) (by simp [results, Tryd.results13, go_sem, q9, wType]) rfl ⟨rfl, ?_⟩
    exact below_set (two_boxes HB9.out).2 _ _ (by omega) _
end Go.Proofs.YtfbfmhmpoaplaaaDoor
