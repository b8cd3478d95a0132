import Derived.Test.YtmmgpbjmegfffaaDoorVBH
import Derived.Test.YtmmgpbjmegfffaaDoorVErr
/-! The program's bools and texts of two values. -/
namespace Go.Proofs.YtmmgpbjmegfffaaDoor.V
open Go.RowKit Go.Shelf
set_option maxRecDepth 20000
theorem binT_int {op a : Int} (h3 : 3 ≤ a) (h9 : 3 ≤ op) (_h18 : op ≤ 18) : binT op a a = if op ≤ 8 then 1 else a := by
  unfold binT
  have n1 : ¬ a = 1 := by omega
  simp only [ne_eq, not_true_eq_false, if_false, n1, not_false_eq_true, if_true, h3]
  repeat' split
  all_goals first | rfl | omega
theorem binT_num {op a : Int} (h3 : 3 ≤ a) (h9 : 9 ≤ op) (h18 : op ≤ 18) : binT op a a = a := by
  rw [binT_int h3 (by omega) h18, if_neg (by omega)]
theorem binT_bool {op : Int} (h1 : 1 ≤ op) (h4 : op ≤ 4) : binT op 1 1 = 1 := by
  obtain rfl | rfl | rfl | rfl : op = 1 ∨ op = 2 ∨ op = 3 ∨ op = 4 := by omega
  all_goals rfl
theorem binT_text {op : Int} (h1 : 3 ≤ op) (h9 : op ≤ 9) : binT op 2 2 ≠ 0 := by
  obtain rfl | rfl | rfl | rfl | rfl | rfl | rfl : op = 3 ∨ op = 4 ∨ op = 5 ∨ op = 6 ∨ op = 7 ∨ op = 8 ∨ op = 9 := by omega
  all_goals decide
theorem valid_bool {n : Int} {s : ByteArray} (h : validB 1 n s = true) : n = 0 ∨ n = 1 := by
  simp [validB] at h
  exact h.2
/-- What two bools come to. -/
def boolsB (op n m : Int) : Bool := if op = 1 then decide (n = 1) || decide (m = 1) else if op = 2 then decide (n = 1) && decide (m = 1) else cmpB op n m
set_option maxHeartbeats 4000000 in
theorem bools_any (op n m : Int) (h1 : 1 ≤ op) (h4 : op ≤ 4) (hn : n = 0 ∨ n = 1) (hm : m = 0 ∨ m = 1) (w : World) :
    Calls Tryd.prog 36 #[.int .i64 op, .int .i64 n, .int .i64 m] w fun e w' => e = .returned (.bool (boolsB op n m)) ∧ Below w.heap.size w w' := by
  have HC : Hid (∀ (op n m : Int) (W : World), 3 ≤ op → op ≤ 8 → _) := fun op n m W p q => cmp_i64 op n m p q W
  obtain rfl | rfl | rfl | rfl : op = 1 ∨ op = 2 ∨ op = 3 ∨ op = 4 := by omega
  all_goals clear h1 h4
  all_goals obtain rfl | rfl := hn
  all_goals obtain rfl | rfl := hm
  all_goals go_enter Tryd.func36, Tryd.ntmps36
  all_goals go_wp2_with (first | (go_at_call 48; refine (HC.out _ _ _ _ (by decide) (by decide)).mono ?_; rintro e w' ⟨rfl, hw⟩; have hw2 := hw.symm; clear hw; subst hw2) | fail)
  all_goals go_ret
  all_goals exact ⟨rfl, Below.refl _ _⟩
set_option maxHeartbeats 1000000 in
theorem ofText_any (s : ByteArray) (w : World) :
    Calls Tryd.prog 50 #[.string s] w fun e w' => e = .returned (val 2 0 s) ∧ Below w.heap.size w w' := by
  go_enter Tryd.func50, Tryd.ntmps50
  go_wp2
  exact bodyPost_ret (v := val 2 0 s) (by simp [results, Tryd.results50, go_sem]) rfl ⟨rfl, alloc_below _ _⟩
set_option maxHeartbeats 2000000 in
theorem texts_cmp (op : Int) (s x : ByteArray) (h3 : 3 ≤ op) (h8 : op ≤ 8) (w : World) :
    Calls Tryd.prog 37 #[.int .i64 op, .string s, .string x] w fun e w' => e = .returned (.tuple #[boolV (ordB op (lessT s x) (sameT s x)), .nilIface]) ∧ Below w.heap.size w w' := by
  have HC := hid (cmp_str op s x h3 h8)
  generalize ordB op (lessT s x) (sameT s x) = R at *
  have HR : Hid (∃ z : Int, boolV R = val 1 z wNone) := ⟨_, rfl⟩
  have HO := hid (ofBool_any R)
  obtain ⟨z, hz⟩ := HR.out
  rw [hz] at HO ⊢
  clear hz HR
  have h9 : (op != 9) = true := by simp; omega
  go_enter Tryd.func37, Tryd.ntmps37
  go_wp2_with fail
  refine (HC.out _).mono ?_
  rintro e w' ⟨rfl, hw⟩
  have hw2 := hw.symm
  clear hw
  subst hw2
  go_wp2_with fail
  refine (HO.out _).mono ?_
  rintro e w1 ⟨rfl, hb1⟩
  have HB1 := hid (box_next (Below.refl _ _) hb1)
  obtain ⟨x0, x1, x2, y0, y1, y2⟩ := box_room HB1.out
  clear hb1
  go_wp2
  exact bodyPost_ret (v := .tuple #[val 1 z wNone, .nilIface]) (by simp [results, Tryd.results37, go_sem, x0, x1, x2]) rfl ⟨rfl, set3 (box_below HB1.out) _ _ _⟩
set_option maxHeartbeats 2000000 in
theorem texts_long (s x : ByteArray) (hs : s.size ≤ 3000) (hx : x.size ≤ 3000) (hl : 3000 < s.size + x.size) (p : Addr) (y : ByteArray) (w : World) (he : ErrAt w 1 p y) :
    Calls Tryd.prog 37 #[.int .i64 9, .string s, .string x] w fun e w' => e = .returned (.tuple #[val 0 0 wNone, errV p]) ∧ Below w.heap.size w w' := by
  have HE := hid he
  clear he
  go_enter Tryd.func37, Tryd.ntmps37
  go_wp2
  have HB0 := hid (Below.refl (w.heap.size + 1) (w.alloc (vbox 0 0 wNone)))
  obtain ⟨W, hW⟩ : ∃ W, w.alloc (vbox 0 0 wNone) = W := ⟨_, rfl⟩
  rw [hW] at HB0 ⊢
  rw [← hW] at HB0
  have HB1 : Hid (Below (w.heap.size + 1) (w.alloc (vbox 0 0 wNone)) W) := by rw [← hW]; exact Below.refl _ _
  clear hW HB0
  obtain ⟨x0, x1, x2, y0, y1, y2⟩ := box_room HB1.out
  have g0 := (HE.out.next (box_below HB1.out)).glob
  have hlg := HE.out.lg
  have hn1 : ¬ w.heap.size = 1 := by omega
  have hn2 : ¬ 1 = w.heap.size := by omega
  go_region
  go_wp2
  exact bodyPost_ret (v := .tuple #[val 0 0 wNone, errV p]) (by simp [results, Tryd.results37, go_sem, x0, x1, x2]) rfl ⟨rfl, (set3 (box_below HB1.out) _ _ _).drew⟩
set_option maxHeartbeats 2000000 in
theorem texts_join (s x : ByteArray) (hl : s.size + x.size ≤ 3000) (w : World) :
    Calls Tryd.prog 37 #[.int .i64 9, .string s, .string x] w fun e w' => e = .returned (.tuple #[val 2 0 (s ++ x), .nilIface]) ∧ Below w.heap.size w w' := by
  have hs : s.size ≤ 3000 := by omega
  have hx : x.size ≤ 3000 := by omega
  have HJ : Hid (∀ (W : World) (g : Nat), W.heap[g]? = some (.cells #[.string s, .string x] 9) → _) := fun W g h => join_any g s x W (by simp [World.cell?, h]) (by simp [World.cell?, h]) (Array.getElem?_eq_some_iff.1 h).1 hl
  go_enter Tryd.func37, Tryd.ntmps37
  go_wp2_with fail
  refine (HJ.out _ _ (by have := heap_alloc_new (w.alloc (vbox 0 0 wNone)) (.cells #[.string s, .string x] 9); rwa [World.size_alloc] at this)).mono ?_
  rintro e w1 ⟨rfl, hb1⟩
  have HB1 := hid (box_next (w := w) (o := vbox 0 0 wNone) (Below.refl _ _) ((alloc_below _ _).trans (hb1.mono (by simp))))
  clear hb1
  go_wp2_with fail
  refine (ofText_any (s ++ x) _).mono ?_
  rintro e w2 ⟨rfl, hb2⟩
  have HB2 := hid (box_next HB1.out hb2)
  obtain ⟨x0, x1, x2, y0, y1, y2⟩ := box_room HB2.out
  clear hb2
  go_wp2
  exact bodyPost_ret (v := .tuple #[val 2 0 (s ++ x), .nilIface]) (by simp [results, Tryd.results37, go_sem, x0, x1, x2]) rfl ⟨rfl, set3 (box_below HB2.out) _ _ _⟩
end Go.Proofs.YtmmgpbjmegfffaaDoor.V
