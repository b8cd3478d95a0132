import Derived.Test.YtfbfmhmpoaplaaaDoorNUn
namespace Go.Proofs.YtfbfmhmpoaplaaaDoor
open Go.RowKit
set_option maxRecDepth 20000
set_option maxHeartbeats 4000000 in
theorem specUn_range (b o N cap : Nat) (t : Tr) (l : List At) (w : World) (e1 : l = flat t) (hl : l.length = N) (hcap : N ≤ cap) (hcm : cap ≤ 1048576) (hb : b < w.heap.size) (hn : AtomsAt w b o l) (hx : ∀ x ∈ l, x.text.size ≤ maxLen) (hv : ValidV l) (hk : t.kind = 3) (hr : t.num = -9223372036854775808) :
    Calls Tryd.prog 13 #[.int .i64 2, .agg #[.slice (some ⟨b, o, none⟩) N cap]] w fun e w' => e = .returned (.tuple #[.agg #[.slice none 0 0], .string ⟨#[114, 97, 110, 103, 101]⟩]) ∧ Below w.heap.size w w' := by
  have HC1 : Hid (∀ W, Below w.heap.size w W → Calls Tryd.prog 7 #[.agg #[.slice (some ⟨b, o, none⟩) N cap]] W fun e w' => Says e (ValidV l) ∧ Below W.heap.size W w') := fun W hW => specValue_any b o N cap l W hl hcap hcm (by have := hW.size; omega) (hn.below hW hb) hx
  have HB0 := hid (Below.refl (w.heap.size + 1 + 1) ((w.alloc (.cells #[.slice (some ⟨b, o, none⟩) N cap] 29)).alloc (.cells #[.slice none 0 0] 29)))
  have HST : Hid (∀ W W', Below (w.heap.size + 1 + 1) ((w.alloc (.cells #[.slice (some ⟨b, o, none⟩) N cap] 29)).alloc (.cells #[.slice none 0 0] 29)) W → Below W.heap.size W W' → Below (w.heap.size + 1 + 1) ((w.alloc (.cells #[.slice (some ⟨b, o, none⟩) N cap] 29)).alloc (.cells #[.slice none 0 0] 29)) W') := fun W W' h h2 => h.trans (h2.mono (by have := h.size; simpa using this))
  obtain ⟨h3, _, h4⟩ := flat_last (e1.trans (congrArg flat (Tr.eta t))) hl
  have HK : Hid (∀ W, Below w.heap.size w W → Calls Tryd.prog 24 #[.agg #[.slice (some ⟨b, o, none⟩) N cap]] W fun e w' => e = .returned (.int .i64 t.kind) ∧ Below W.heap.size W w') := fun W hW => l6Kind_any b o N cap _ W h3 (by omega) (by have := hW.size; omega) ((hn.below hW hb) _ _ h4)
  have HLA : Hid (∀ W, Below w.heap.size w W → Calls Tryd.prog 26 #[.agg #[.slice (some ⟨b, o, none⟩) N cap]] W fun e w' => e = .returned (.agg #[.int .i64 t.kind, .int .i64 t.num, .string t.text, .int .i64 t.kids.length]) ∧ Below W.heap.size W w') := fun W hW => l5Last_any b o N cap _ W h3 (by omega) (by have := hW.size; omega) ((hn.below hW hb) _ _ h4)
  have g1 := fNum t.kind t.num t.kids.length t.text
  clear hn hx hl h4 e1
  have k3 : (t.kind == 3) = true := by simpa using hk
  have km : (t.num == -9223372036854775808) = true := by simpa using hr
  clear hk hr
  go_enter Tryd.func13, Tryd.ntmps13
  go_wp2_with fail
  refine (HC1.out _ (two_boxes HB0.out).2).mono ?_
  rintro e w1 ⟨hs, hb1⟩
  obtain rfl := hs.pos hv
  clear hs
  have HB1 := hid (HST.out _ _ HB0.out hb1)
  obtain ⟨p1, q1, f1⟩ := (two_boxes HB1.out).1
  clear hb1
  go_wp2_with fail
  refine (HC1.out _ (two_boxes HB1.out).2).mono ?_
  rintro e w2 ⟨hs, hb2⟩
  obtain rfl := hs.pos hv
  clear hs
  have HB2 := hid (HST.out _ _ HB1.out hb2)
  obtain ⟨p2, q2, f2⟩ := (two_boxes HB2.out).1
  clear hb2
  go_wp2_with fail
  refine (HK.out _ (two_boxes HB2.out).2).mono ?_
  rintro e w3 ⟨rfl, hb3⟩
  have HB3 := hid (HST.out _ _ HB2.out hb3)
  obtain ⟨p3, q3, f3⟩ := (two_boxes HB3.out).1
  clear hb3
  go_wp2_with fail
  refine (HLA.out _ (two_boxes HB3.out).2).mono ?_
  rintro e w4 ⟨rfl, hb4⟩
  have HB4 := hid (HST.out _ _ HB3.out hb4)
  obtain ⟨p4, q4, f4⟩ := (two_boxes HB4.out).1
  clear hb4
  go_wp2_with fail
  refine (l6No_any _ _).mono ?_
  rintro e w9 ⟨rfl, hb9⟩
  have HB9 := hid (HST.out _ _ HB4.out hb9)
  obtain ⟨p9, q9, f9⟩ := (two_boxes HB9.out).1
  clear hb9
  go_wp2
  refine bodyPost_ret (v := .tuple #[.agg #[.slice none 0 0], .string ⟨#[114, 97, 110, 103, 101]⟩]) (by simp [results, Tryd.results13, go_sem, q9]) rfl ⟨rfl, ?_⟩
  exact below_set (two_boxes HB9.out).2 _ _ (by omega) _
set_option maxHeartbeats 400000 in
theorem lite_nil (w : World) : Calls Tryd.prog 67 #[.string ⟨#[]⟩] w fun e w' => e = .returned (.string ⟨#[]⟩) ∧ w' = w := by
  go_enter Tryd.func67, Tryd.ntmps67
  go_wp2
  go_ret
  exact ⟨rfl, rfl⟩
set_option maxHeartbeats 400000 in
theorem strClone_nil (w : World) : Calls Tryd.prog 65 #[.string ⟨#[]⟩] w fun e w' => e = .returned (.string ⟨#[]⟩) ∧ w' = w := by
  go_enter Tryd.func65, Tryd.ntmps65
  go_wp2_with fail
  refine (lite_nil _).mono ?_
  rintro e w1 ⟨rfl, hw⟩
  have hw2 := hw.symm
  clear hw
  subst hw2
  go_wp2
  go_ret
  exact ⟨rfl, rfl⟩
end Go.Proofs.YtfbfmhmpoaplaaaDoor
