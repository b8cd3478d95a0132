import Derived.Test.YtabefhpgeaihgaaGreatDoorJ44
import Derived.Test.YtabefhpgeaihgaaGreatDoorJ43
import Derived.Test.YtabefhpgeaihgaaGreatDoorJ14
import Derived.Test.YtabefhpgeaihgaaGreatDoorJ35
import Derived.Test.YtabefhpgeaihgaaGreatDoorJ39
import Derived.Test.YtabefhpgeaihgaaGreatDoorJ17
import Derived.Test.YtabefhpgeaihgaaGreatDoorJ04
/-! The program's MillBuilt, and the law's comparison. Printed by gen_vbltl.py. -/
namespace Go.Proofs.YtabefhpgeaihgaaGreatDoor.V
open Go.RowKit Go.Shelf
set_option maxRecDepth 20000
set_option maxHeartbeats 4000000 in
theorem implB_any (op : Int) (g N : Nat) (vl : Nat → Vl) (hN : N ≤ 1048576) (p q r : Addr) (w : World) (hg : g < w.heap.size) (hv : ValsAt w g N vl) (hbd : ∀ i, i < N → -9223372036854775808 ≤ (vl i).n ∧ (vl i).n ≤ 9223372036854775807) (hE : EnvT w p q r) :
    Calls Tryz.prog 10 #[.int .i64 op, .slice (some ⟨g, 0, none⟩) N N] w fun e w' => SEnd op N vl w e w' := by
  have HO : Hid (∀ W, Below w.heap.size w W → Calls Tryz.prog 23 #[.int .i64 op, .slice (some ⟨g, 0, none⟩) N N] W fun e w' => IEnd op N vl p q r W e w') := fun W hW => ofB_any op g N vl hN p q r W (Nat.lt_of_lt_of_le hg hW.size) (hv.below hW hg) hbd (hE.next hW)
  have HE := hid hE
  have HS0 : Hid (Bs w g N vl (w.alloc (vbox 0 0 wNone))) := ⟨alloc_below _ _, hv.below (alloc_below w _) hg, heap_new w _⟩
  clear hv hbd hE
  go_enter Tryz.func10, Tryz.ntmps10
  go_wp2_with fail
  refine (HO.out _ (alloc_below _ _)).mono ?_
  rintro e w1 ⟨hb1, he⟩
  have HS1 := hid (HS0.out.next hg hb1)
  have HE1 := hid (HE.out.next HS1.out.lo)
  clear hb1 HS0 HO
  rcases he with ⟨y, z, st, rfl, hx⟩ | ⟨rfl, hx⟩ | ⟨rfl, hx⟩ | ⟨rfl, hx⟩
  · have HX := hid hx
    clear hx
    go_wp2_with fail
    refine (answer_nil y z st _).mono ?_
    rintro e w2 ⟨rfl, hb2⟩
    have HS2 := hid (HS1.out.next hg hb2)
    clear hb2
    obtain ⟨r0, r1, r2, f0, f1, f2⟩ := six HS2.out.rb
    go_wp2
    exact bodyPost_ret (v := ans y z st wNone) (by simp [results, Tryz.results10, go_sem, r0, r1, r2]) rfl ⟨_, _, _, _, rfl, HX.out, setr (Nat.le_refl _) HS2.out.lo _ _ _⟩
  · have HX := hid hx
    clear hx
    go_wp2_with fail
    refine (answer_err 0 0 wNone p wType _ HE1.out.ty.cell HE1.out.ty.la).mono ?_
    rintro e w2 ⟨rfl, hb2⟩
    have HS2 := hid (HS1.out.next hg hb2)
    clear hb2
    obtain ⟨r0, r1, r2, f0, f1, f2⟩ := six HS2.out.rb
    go_wp2
    exact bodyPost_ret (v := ans 0 0 wNone wType) (by simp [results, Tryz.results10, go_sem, r0, r1, r2]) rfl ⟨_, _, _, _, rfl, HX.out, setr (Nat.le_refl _) HS2.out.lo _ _ _⟩
  · have HX := hid hx
    clear hx
    go_wp2_with fail
    refine (answer_err 0 0 wNone q wRange _ HE1.out.rg.cell HE1.out.rg.la).mono ?_
    rintro e w2 ⟨rfl, hb2⟩
    have HS2 := hid (HS1.out.next hg hb2)
    clear hb2
    obtain ⟨r0, r1, r2, f0, f1, f2⟩ := six HS2.out.rb
    go_wp2
    exact bodyPost_ret (v := ans 0 0 wNone wRange) (by simp [results, Tryz.results10, go_sem, r0, r1, r2]) rfl ⟨_, _, _, _, rfl, HX.out, setr (Nat.le_refl _) HS2.out.lo _ _ _⟩
  · have HX := hid hx
    clear hx
    go_wp2_with fail
    refine (answer_err 0 0 wNone r wNumber _ HE1.out.nu.cell HE1.out.nu.la).mono ?_
    rintro e w2 ⟨rfl, hb2⟩
    have HS2 := hid (HS1.out.next hg hb2)
    clear hb2
    obtain ⟨r0, r1, r2, f0, f1, f2⟩ := six HS2.out.rb
    go_wp2
    exact bodyPost_ret (v := ans 0 0 wNone wNumber) (by simp [results, Tryz.results10, go_sem, r0, r1, r2]) rfl ⟨_, _, _, _, rfl, HX.out, setr (Nat.le_refl _) HS2.out.lo _ _ _⟩
end Go.Proofs.YtabefhpgeaihgaaGreatDoor.V
/-! What the program answers of two numbers, of one, of one of another type: for the law of values. -/
namespace Go.Proofs.YtabefhpgeaihgaaGreatDoor.V
open Go.RowKit Go.Shelf
set_option maxRecDepth 20000
/-- All that the law of values reads of package variables. -/
structure EnvV (W : World) (p q r d : Addr) : Prop where
  bl : EnvT W p q r
  dv : ErrAt W 6 d wDiv
theorem EnvV.next {W V : World} {p q r d : Addr} (h : EnvV W p q r d) (hb : Below W.heap.size W V) : EnvV V p q r d := ⟨h.bl.next hb, h.dv.next hb⟩
theorem valid_typN {t n : Int} {s : ByteArray} (h : validB t n s = true) : 1 ≤ t ∧ t ≤ 10 := by
  by_cases h1 : t = 1
  · omega
  · by_cases h2 : t = 2
    · omega
    · by_cases h3 : 3 ≤ t ∧ t ≤ 10
      · omega
      · rw [valid_out h1 h2 h3] at h; cases h
theorem valid_intN {t n : Int} {s : ByteArray} (h3 : 3 ≤ t) (h4 : t ≤ 10) (h : validB t n s = true) : n = into t n ∧ s = wNone := by
  rw [valid_int h3 h4, Bool.and_eq_true, decide_eq_true_iff, decide_eq_true_iff] at h
  exact ⟨h.2, size_zero h.1⟩
theorem valid_mkN {t n : Int} (h3 : 3 ≤ t) (h4 : t ≤ 10) (h : n = into t n) : validB t n wNone = true := by
  rw [valid_int h3 h4, Bool.and_eq_true]
  exact ⟨rfl, decide_eq_true h⟩
theorem kt_zeroN (t : Int) : (kT t).wrap 0 = 0 := by
  unfold kT
  repeat' split
  all_goals rfl
theorem wrap_zero {t b : Int} (hb : b = into t b) : (kT t).wrap b = 0 ↔ b = 0 :=
  ⟨fun e => by rw [hb]; show IntKind.i64.wrap ((kT t).wrap b) = 0; rw [e]; rfl, fun e => by rw [e]; exact kt_zeroN t⟩
section
variable {t n n2 : Int} (h3 : 3 ≤ t) (h4 : t ≤ 10) (hv : n = into t n) (hx : n2 = into t n2) (hn1 : -9223372036854775808 ≤ n) (hn2 : n ≤ 9223372036854775807) (hm1 : -9223372036854775808 ≤ n2) (hm2 : n2 ≤ 9223372036854775807)
include h3 h4 hv hx hn1 hn2 hm1 hm2
theorem bin_cnt (op : Int) (h9 : 9 ≤ op) (h18 : op ≤ 18) (hz : op = 14 ∨ op = 15 → n2 ≠ 0) (W : World) :
    Calls Tryz.prog 6 #[.int .i64 op, val t n wNone, val t n2 wNone] W fun e w' => e = .returned (ans t (cntT t op n n2) wNone wNone) ∧ Below W.heap.size W w' := by
  refine top_ok op t n wNone t n2 wNone t _ wNone W (fun V _ => ?_)
  refine binOf_int V op t n wNone n2 wNone (valid_mkN h3 h4 hv) (valid_mkN h3 h4 hx) (by omega) h18 h3 h4 t _ wNone .nilIface (fun U _ => ?_) hn1 hn2 hm1 hm2
  have := intsN t op n n2 h3 h4 h9 h18 hn1 hn2 hm1 hm2 (fun h e => hz h ((wrap_zero hx).1 e)) U
  rwa [impl_cnt t op n n2 h9 h18] at this
theorem bin_cmp (op : Int) (o3 : 3 ≤ op) (o8 : op ≤ 8) (W : World) :
    Calls Tryz.prog 6 #[.int .i64 op, val t n wNone, val t n2 wNone] W fun e w' => e = .returned (ans 1 (if cmpB op ((kT t).wrap n) ((kT t).wrap n2) then 1 else 0) wNone wNone) ∧ Below W.heap.size W w' := by
  refine top_ok op t n wNone t n2 wNone 1 _ wNone W (fun V _ => ?_)
  refine binOf_int V op t n wNone n2 wNone (valid_mkN h3 h4 hv) (valid_mkN h3 h4 hx) o3 (by omega) h3 h4 1 _ wNone .nilIface (fun U _ => ?_) hn1 hn2 hm1 hm2
  exact intsC t op n n2 h3 h4 o3 o8 hn1 hn2 hm1 hm2 U
end
theorem bin_zero {t n : Int} (h3 : 3 ≤ t) (h4 : t ≤ 10) (hv : n = into t n) (hn1 : -9223372036854775808 ≤ n) (hn2 : n ≤ 9223372036854775807) (op : Int) (ho : op = 14 ∨ op = 15) (d : Addr) (W : World) (hE : ErrAt W 6 d wDiv) :
    Calls Tryz.prog 6 #[.int .i64 op, val t n wNone, val t 0 wNone] W fun e w' => e = .returned (ans 0 0 wNone wDiv) ∧ Below W.heap.size W w' := by
  have hx : (0 : Int) = into t 0 := (into_zero t).symm
  refine top_err op t n wNone t 0 wNone t 0 wNone _ d wDiv W hE (fun V hV => ?_)
  refine binOf_int V op t n wNone 0 wNone (valid_mkN h3 h4 hv) (valid_mkN h3 h4 hx) (by omega) (by omega) h3 h4 t 0 wNone _ (fun U hU => ?_) hn1 hn2 (by decide) (by decide)
  exact intsZ t op n 0 h3 h4 ho hn1 hn2 (by decide) (by decide) (kt_zeroN t) d wDiv U ((hE.next hV).next hU)
/-- Two values that are not two numbers of one type have no product. -/
theorem bin_typ (t n : Int) (s : ByteArray) (t2 n2 : Int) (x : ByteArray) (h : ¬ (validB t n s = true ∧ validB t2 n2 x = true ∧ t = t2 ∧ 3 ≤ t))
    (hn1 : -9223372036854775808 ≤ n) (hn2 : n ≤ 9223372036854775807) (hm1 : -9223372036854775808 ≤ n2) (hm2 : n2 ≤ 9223372036854775807) (p : Addr) (W : World) (hE : ErrAt W 0 p wType) :
    Calls Tryz.prog 6 #[.int .i64 13, val t n s, val t2 n2 x] W fun e w' => e = .returned (ans 0 0 wNone wType) ∧ Below W.heap.size W w' := by
  refine top_err 13 t n s t2 n2 x 0 0 wNone _ p wType W hE (fun V hV => ?_)
  have hE' := hE.next hV
  cases hv : validB t n s
  · exact binOf_b3 13 t n s t2 n2 x hv (by decide) (by decide) hn1 hn2 p wType V hE'
  · cases hx : validB t2 n2 x
    · exact binOf_b4 13 t n s t2 n2 x hv hx (by decide) (by decide) hn1 hn2 hm1 hm2 p wType V hE'
    · have ht := valid_typN hv
      refine binOf_b5 13 t n s t2 n2 x hv hx (by decide) (by decide) ht.1 ht.2 ?_ hn1 hn2 hm1 hm2 p wType V hE'
      by_cases he : t = t2
      · subst he
        have h3 : ¬ 3 ≤ t := fun h3 => h ⟨hv, hx, rfl, h3⟩
        obtain rfl | rfl : t = 1 ∨ t = 2 := by omega
        · rfl
        · rfl
      · exact binT_other he
section
variable {t n : Int} (h3 : 3 ≤ t) (h4 : t ≤ 10) (hv : n = into t n) (hn1 : -9223372036854775808 ≤ n) (hn2 : n ≤ 9223372036854775807)
include h3 h4 hv hn1 hn2
theorem un_neg (p : Addr) (W : World) (hE : ErrAt W 0 p wType) :
    Calls Tryz.prog 7 #[.int .i64 1, val t n wNone] W fun e w' => e = .returned (ans t (cntT t 10 0 n) wNone wNone) ∧ Below W.heap.size W w' := by
  have := implUn_any 1 t n wNone hn1 hn2 p W hE
  have hu : unT 1 t ≠ 0 := by unfold unT; rw [if_pos (.inr ⟨by decide, h3, h4⟩)]; omega
  have ho : unOk 1 t n wNone = true := unOk_t (valid_mkN h3 h4 hv) (by decide) (by decide) hu
  unfold unR at this
  rw [ho] at this
  exact this
theorem un_inv (p : Addr) (W : World) (hE : ErrAt W 0 p wType) :
    Calls Tryz.prog 7 #[.int .i64 3, val t n wNone] W fun e w' => e = .returned (ans t (cntT t 12 n (-1)) wNone wNone) ∧ Below W.heap.size W w' := by
  have := implUn_any 3 t n wNone hn1 hn2 p W hE
  have hu : unT 3 t ≠ 0 := by unfold unT; rw [if_pos (.inr ⟨by decide, h3, h4⟩)]; omega
  have ho : unOk 3 t n wNone = true := unOk_t (valid_mkN h3 h4 hv) (by decide) (by decide) hu
  unfold unR at this
  rw [ho] at this
  exact this
theorem conv_to (u : Int) (h5 : 3 ≤ u) (h6 : u ≤ 10) (p : Addr) (W : World) (hE : ErrAt W 0 p wType) :
    Calls Tryz.prog 8 #[val t n wNone, .int .i64 u] W fun e w' => e = .returned (ans u (into u n) wNone wNone) ∧ Below W.heap.size W w' := by
  have := implConv_any t n u wNone hn1 hn2 p W hE
  have ho : convOk t n u wNone = true := by unfold convOk; rw [valid_mkN h3 h4 hv]; simp; omega
  rw [ho] at this
  exact this
end
end Go.Proofs.YtabefhpgeaihgaaGreatDoor.V
/-! The law of built words. -/
namespace Go.Proofs.YtabefhpgeaihgaaGreatDoor.V
open Go.RowKit Go.Shelf
set_option maxRecDepth 20000
end Go.Proofs.YtabefhpgeaihgaaGreatDoor.V
