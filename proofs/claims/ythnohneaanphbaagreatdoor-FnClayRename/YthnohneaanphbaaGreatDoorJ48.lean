import Derived.Deep.RegionHeld3
import Derived.Test.YthnohneaanphbaaGreatDoorJ43
import Derived.Test.YthnohneaanphbaaGreatDoorJ38
namespace Go.Proofs.YthnohneaanphbaaGreatDoor
open Go.RowKit Go.Maps Go.WideMaps
set_option maxRecDepth 20000
theorem word_at (w:World) (S M:Obj):((w.alloc S).drew.alloc M).heap[w.heap.size+1]?=some M:=by
 have:=heap_alloc_new ((w.alloc S).drew) M
 have e:(w.alloc S).drew.heap.size=w.heap.size+1:=by simp
 rw [e] at this
 exact this
set_option maxHeartbeats 2000000 in
theorem isFresh_any (b N cap:Nat) (nd:Nat→Nd) (s:ByteArray) (w:World) (hN:N≤1048576) (hb:b < w.heap.size) (hn:NodesAt w b N nd) (hs:s.size≤maxLen) (hE:BEnv w) :
  Calls Tryz.prog 18 #[.slice (some ⟨b,0,none⟩) N cap,.string s] w fun e w'=>Says e (FreshT nd N s)∧Below w.heap.size w w':=by
 have HN:=hid hn
 have HS:=hid hs
 have HE:=hid hE
 clear hn hs hE
 have t0:(w.alloc (.cells #[.string s] 9)).cell? ⟨w.heap.size,0,none⟩=some (.string s):=cell_new_row w _ _ 0
 have HB0:=hid ((Below.refl w.heap.size w).alloc (Nat.le_refl _) (.cells #[.string s] 9))
 have HKE:Hid (∀ W,Below (w.heap.size+1) (w.alloc (.cells #[.string s] 9)) W→W.cell? ⟨w.heap.size,0,none⟩=some (.string s)∧Below w.heap.size w W):=fun W h=>⟨(h.cell (p:=⟨w.heap.size,0,none⟩) (by show w.heap.size < w.heap.size+1;omega)).trans (cell_new_row w _ _ 0),HB0.out.trans (h.mono (by omega))⟩
 go_enter Tryz.func18,Tryz.ntmps18
 go_wp2_with fail
 by_cases h1:NameOk s
 ·have H1:=hid h1
  clear h1
  cases h2:isBuilt s with
  | true =>
   have H2:=hid h2
   clear h2
   first
    | (go_region_with (first
      | (go_at_call 39;refine (clayWords_any _).mono ?_;rintro e w2 ⟨rfl,hw2⟩;have HW2:=hid hw2;have HC2:Hid (Below (w.heap.size+1) (w.alloc (.cells #[.string s] 9)) w2):=(by rw [hw2];exact (Below.refl _ _).drew.alloc (by simp) _);have f2:=(HKE.out _ HC2.out).1;clear hw2)
      | (go_at_call 38;refine (isName_at s _ _ HS.out (by rw [HW2.out];exact word_at w _ _)).mono ?_;rintro e w3 ⟨hs3,hb3⟩;have hr:=hs3.pos H1.out;subst hr;have HC3:=hid (HC2.out.trans (hb3.mono (by have:=HC2.out.size;simpa using this)));have f3:=(HKE.out _ HC3.out).1;clear hs3 hb3)
      | (go_at_call 40;refine (isBuilt_any s _ (HE.out.below (HKE.out _ HC3.out).2 HE.out.pos)).mono ?_;rintro e w' ⟨rfl,hw⟩;have hw2:=hw.symm;clear hw;subst hw2;rw [H2.out])))
    | fail
   all_goals go_wp2
   all_goals go_ret
   all_goals exact ⟨says_f (fun h=>by have:=h.2.1;rw [H2.out] at this;cases this),(HKE.out _ HC3.out).2⟩
  | false =>
   have H2:=hid h2
   clear h2
   by_cases h3:∃ i,i < N∧(nd i).text=s
   ·have H3:=hid h3
    clear h3
    first
     | (go_region_with (first
       | (go_at_call 39;refine (clayWords_any _).mono ?_;rintro e w2 ⟨rfl,hw2⟩;have HW2:=hid hw2;have HC2:Hid (Below (w.heap.size+1) (w.alloc (.cells #[.string s] 9)) w2):=(by rw [hw2];exact (Below.refl _ _).drew.alloc (by simp) _);have f2:=(HKE.out _ HC2.out).1;clear hw2)
       | (go_at_call 38;refine (isName_at s _ _ HS.out (by rw [HW2.out];exact word_at w _ _)).mono ?_;rintro e w3 ⟨hs3,hb3⟩;have hr:=hs3.pos H1.out;subst hr;have HC3:=hid (HC2.out.trans (hb3.mono (by have:=HC2.out.size;simpa using this)));have f3:=(HKE.out _ HC3.out).1;clear hs3 hb3)
       | (go_at_call 40;refine (isBuilt_any s _ (HE.out.below (HKE.out _ HC3.out).2 HE.out.pos)).mono ?_;rintro e w' ⟨rfl,hw⟩;have hw2:=hw.symm;clear hw;subst hw2;rw [H2.out])
       | (go_at_call 41;refine (containsText_any w.heap.size b N cap nd s _ hN (Nat.lt_of_lt_of_le hb (HKE.out _ HC3.out).2.size) (HN.out.below (HKE.out _ HC3.out).2 hb) (HKE.out _ HC3.out).1).mono ?_;rintro e w4 ⟨hs4,hb4⟩;have hr:=hs4.pos H3.out;subst hr;have HC4:=hid (HC3.out.trans (hb4.mono (by have:=HC3.out.size;simpa using this)));clear hs4 hb4)))
     | fail
    all_goals go_wp2
    all_goals go_ret
    all_goals exact ⟨says_f (fun h=>h.2.2 H3.out),(HKE.out _ HC4.out).2⟩
   ·have H3:=hid h3
    clear h3
    first
     | (go_region_with (first
       | (go_at_call 39;refine (clayWords_any _).mono ?_;rintro e w2 ⟨rfl,hw2⟩;have HW2:=hid hw2;have HC2:Hid (Below (w.heap.size+1) (w.alloc (.cells #[.string s] 9)) w2):=(by rw [hw2];exact (Below.refl _ _).drew.alloc (by simp) _);have f2:=(HKE.out _ HC2.out).1;clear hw2)
       | (go_at_call 38;refine (isName_at s _ _ HS.out (by rw [HW2.out];exact word_at w _ _)).mono ?_;rintro e w3 ⟨hs3,hb3⟩;have hr:=hs3.pos H1.out;subst hr;have HC3:=hid (HC2.out.trans (hb3.mono (by have:=HC2.out.size;simpa using this)));have f3:=(HKE.out _ HC3.out).1;clear hs3 hb3)
       | (go_at_call 40;refine (isBuilt_any s _ (HE.out.below (HKE.out _ HC3.out).2 HE.out.pos)).mono ?_;rintro e w' ⟨rfl,hw⟩;have hw2:=hw.symm;clear hw;subst hw2;rw [H2.out])
       | (go_at_call 41;refine (containsText_any w.heap.size b N cap nd s _ hN (Nat.lt_of_lt_of_le hb (HKE.out _ HC3.out).2.size) (HN.out.below (HKE.out _ HC3.out).2 hb) (HKE.out _ HC3.out).1).mono ?_;rintro e w4 ⟨hs4,hb4⟩;have hr:=hs4.neg H3.out;subst hr;have HC4:=hid (HC3.out.trans (hb4.mono (by have:=HC3.out.size;simpa using this)));clear hs4 hb4)))
     | fail
    all_goals go_wp2
    all_goals go_ret
    all_goals exact ⟨says_t ⟨H1.out,H2.out,H3.out⟩,(HKE.out _ HC4.out).2⟩
 ·have H1:=hid h1
  clear h1
  first
   | (go_region_with (first
     | (go_at_call 39;refine (clayWords_any _).mono ?_;rintro e w2 ⟨rfl,hw2⟩;have HW2:=hid hw2;have HC2:Hid (Below (w.heap.size+1) (w.alloc (.cells #[.string s] 9)) w2):=(by rw [hw2];exact (Below.refl _ _).drew.alloc (by simp) _);have f2:=(HKE.out _ HC2.out).1;clear hw2)
     | (go_at_call 38;refine (isName_at s _ _ HS.out (by rw [HW2.out];exact word_at w _ _)).mono ?_;rintro e w3 ⟨hs3,hb3⟩;have hr:=hs3.neg H1.out;subst hr;have HC3:=hid (HC2.out.trans (hb3.mono (by have:=HC2.out.size;simpa using this)));have f3:=(HKE.out _ HC3.out).1;clear hs3 hb3)))
   | fail
  all_goals go_wp2
  all_goals go_ret
  all_goals exact ⟨says_f (fun h=>H1.out h.1),(HKE.out _ HC3.out).2⟩
end Go.Proofs.YthnohneaanphbaaGreatDoor
