import Derived.Deep.RegionLaw
import Derived.Deep.DeepCutAuto
import Derived.Test.YtbakebdfmdepnaaGreatDoorJ27
import Derived.Test.YtbakebdfmdepnaaGreatDoorJ36
import Derived.Test.YtbakebdfmdepnaaGreatDoorJ29
import Derived.Test.YtbakebdfmdepnaaGreatDoorJ08
import Derived.Test.YtbakebdfmdepnaaGreatDoorJ20
import Derived.Test.YtbakebdfmdepnaaGreatDoorJ37
import Derived.Test.YtbakebdfmdepnaaGreatDoorJ38
import Derived.Test.YtbakebdfmdepnaaGreatDoorJ30
namespace Go.Proofs.YtbakebdfmdepnaaGreatDoor.K
open Go.RowKit
set_option maxRecDepth 20000
def tokCells (t : Tok) : List Value := [.int .i64 t.kind, .string ⟨t.text.toArray⟩, .int .i64 t.n, .int .i64 t.place]
def tokRow (ts : List Tok) : List Value := ts.flatMap tokCells
theorem tokRow_snoc (ts : List Tok) (t : Tok) : tokRow (ts ++ [t]) = tokRow ts ++ tokCells t := by simp [tokRow]
theorem info_tok : (Tryz.prog.info? 120).map (fun i => (i.zero, i.size, i.bytes)) = some (some (.agg #[.int .i64 0, .string ⟨#[]⟩, .int .i64 0, .int .i64 0]), 4, 40) := by kernel_rfl
theorem cell_four_new (w : World) (a b c d : Value) (t : TypeId) : ∀ j u, [a, b, c, d][j]? = some u → (w.alloc (.cells #[a, b, c, d] t)).cell? ((⟨w.heap.size, 0, none⟩ : Addr).add j) = some u := by
 intro j u hj
 have h : (w.alloc (.cells #[a, b, c, d] t)).cell? ⟨w.heap.size, j, none⟩ = #[a, b, c, d][j]? := cell_new_row w _ t j
 have e : ((⟨w.heap.size, 0, none⟩ : Addr).add j) = ⟨w.heap.size, j, none⟩ := by unfold Addr.add; simp; intro h; exact h.symm
 rw [e, h, ← hj]; simp
theorem cell_four_new1 (w : World) (X : Obj) (a b c d : Value) (t : TypeId) : ∀ j u, [a, b, c, d][j]? = some u → ((w.alloc X).alloc (.cells #[a, b, c, d] t)).cell? ((⟨w.heap.size + 1, 0, none⟩ : Addr).add j) = some u := by
 intro j u hj
 have h := cell_four_new (w.alloc X) a b c d t j u hj
 rw [World.size_alloc] at h
 exact h
theorem flt_cells {w w1 : World} (h : Below (w.heap.size + 1) (w.alloc (.cells #[.int .i64 0, .int .i64 0] 28)) w1) :
  w1.cell? ⟨w.heap.size, 0, none⟩ = some (.int .i64 0) ∧ w1.cell? ⟨w.heap.size, 1, none⟩ = some (.int .i64 0) ∧ w1.frozen? ⟨w.heap.size, 0, none⟩ = false ∧ w1.frozen? ⟨w.heap.size, 1, none⟩ = false := by
 refine ⟨?_, ?_, ?_, ?_⟩
 ·rw [h.cell (p := ⟨w.heap.size, 0, none⟩) (Nat.lt_succ_self _), cell_new_row]; rfl
 ·rw [h.cell (p := ⟨w.heap.size, 1, none⟩) (Nat.lt_succ_self _), cell_new_row]; rfl
 ·rw [h.frozen (p := ⟨w.heap.size, 0, none⟩) (Nat.lt_succ_self _)]; simp
 ·rw [h.frozen (p := ⟨w.heap.size, 1, none⟩) (Nat.lt_succ_self _)]; simp
theorem own_base {w : World} {B B' e size k : Nat} {v : Value} {xs : List Value} (h : w.ownsRow B e size v k xs) (hB : B' ≤ B) : w.ownsRow B' e size v k xs := by
 obtain ⟨h1, h2 | ⟨g, cap, cur, a, b, c⟩⟩ := h
 ·exact ⟨h1, .inl h2⟩
 ·exact ⟨h1, .inr ⟨g, cap, cur, a, Nat.le_trans hB b, c⟩⟩
theorem own_below {w w1 : World} {B e size k : Nat} {v : Value} {xs : List Value} (h : w.ownsRow B e size v k xs) (hb : Below w.heap.size w w1) : w1.ownsRow B e size v k xs := by
 obtain ⟨h1, h2 | ⟨g, cap, cur, a, b, c, d⟩⟩ := h
 ·exact ⟨h1, .inl h2⟩
 ·refine ⟨h1, .inr ⟨g, cap, cur, a, b, ?_, d⟩⟩
  have hg : g < w.heap.size := (Array.getElem?_eq_some_iff.1 c).1
  rw [hb.block g hg]; exact c
set_option maxHeartbeats 1000000 in
theorem sScan_any (s : ByteArray) (w : World) (hl : s.size ≤ 8000) :
  Calls Tryz.prog 51 #[.string s] w fun e w' => ∃ v, e = .returned (.tuple #[v, .agg #[.int .i64 (scanR s.data.toList).2.1, .int .i64 (scanR s.data.toList).2.2]]) ∧
   w'.ownsRow w.heap.size 120 4 v (scanR s.data.toList).1.length (tokRow (scanR s.data.toList).1) ∧ Below w.heap.size w w' := by
 generalize hR : scanR s.data.toList = R
 have HR := hid hR
 clear hR
 obtain ⟨i0, hi, hz0, hz1, hz2⟩ := info_parts info_tok
 have HHI := hid (And.intro hi (And.intro hz0 (And.intro hz1 hz2)))
 clear hi hz0 hz1 hz2
 have hms : s.size ≤ maxLen := by unfold maxLen; omega
 have hg0 := gapN_le false s.data.toList
 rw [len_size] at hg0
 go_enter Tryz.func51, Tryz.ntmps51
 go_wp2_with (go_at_call 76; refine (l1Gap_any s 0 _ hms (by omega) (by omega)).mono ?_; rintro e w' ⟨rfl, hw⟩; have hw2 := hw.symm; clear hw; subst hw2)
 go_loopw [4, 5] (fun v i wr => ∃ (p f : Nat) (pre : List Tok), i = .int .i64 p ∧ p ≤ s.size ∧ s.size - p < f ∧ pre.length ≤ p ∧ wr.ownsRow (w.heap.size + 1) 120 4 v pre.length (tokRow pre) ∧
   Below (w.heap.size + 1) (w.alloc (.cells #[.int .i64 0, .int .i64 0] 28)) wr ∧ scanRest s.data.toList f p pre) (fun _ i _ => s.size - (intOf i).toNat)
 case atStart =>
  refine ⟨gapN false s.data.toList, s.data.toList.length + 1, [], rfl, hg0, by rw [len_size]; omega, Nat.zero_le _, ?_, ?_, rfl⟩
  ·have h := World.ownsRow_made (w.alloc (Obj.cells #[Value.int IntKind.i64 0, Value.int IntKind.i64 0] 28)) (base := w.heap.size + 1) (e := 120) (size := 4) #[] 0 (by simp) (by unfold maxLen; omega) rfl
   rw [World.size_alloc] at h
   exact h
  ·exact (Below.refl _ _).alloc (by simp) _
 case round =>
  obtain ⟨p, f, pre, rfl, hp, hf, hpre, hown, hbel, hrest⟩ := hrel
  have OWN := hid hown
  have HB := hid hbel
  have HREST := hid hrest
  clear hown hbel hrest hg0
  have hsz := HB.out.size
  rw [World.size_alloc] at hsz
  by_cases hlt : p < s.size
  ·obtain ⟨f, rfl⟩ : ∃ f', f = f' + 1 := ⟨f - 1, by omega⟩
   have hlt' : p < s.data.toList.length := by rw [len_size]; exact hlt
   generalize hO : one (s.data.toList.drop p) = O
   have HO := hid hO
   clear hO
   by_cases hc : O.code = 0
   ·have HV : Hid (oneV O p = .tuple #[.agg #[.int .i64 O.kind, .string ⟨O.text.toArray⟩, .int .i64 O.n, .int .i64 p], .int .i64 (p + O.size), .int .i64 0]) := if_pos hc
    have hs1 := one_size (s.data.toList.drop p) (by rw [HO.out]; exact hc)
    rw [HO.out, List.length_drop, len_size] at hs1
    obtain ⟨hs1, hs2⟩ := hs1
    have hs3 : p + O.size ≤ s.size := by omega
    have NEXT := hid (scanRest_go HREST.out hlt' (by rw [HO.out]; exact hc))
    rw [HO.out] at NEXT
    have hg1 := gapN_le false (s.data.toList.drop (p + O.size))
    rw [List.length_drop, len_size] at hg1
    have HTN : Hid (((p : Int) + (O.size : Int)).toNat = p + O.size) := by show _ = _; omega
    clear hc
    go_wp2_with (first
     | (go_at_call 77; refine (l1One_any s p _ hl hlt).mono ?_; rintro e w1 ⟨rfl, hb⟩; rw [HO.out, HV.out]; have HB1 := hid hb; clear hb; have hz1 := HB1.out.size)
     | (at_builtin; refine wpList_append_own _ rfl (.tmp 34) (.tmp 36) 92 rfl (w.heap.size + 1) 120 i0 (.agg #[.int .i64 0, .string ⟨#[]⟩, .int .i64 0, .int .i64 0]) 4 40 Tryz.underlying92 HHI.out.1 HHI.out.2.1 HHI.out.2.2.1 HHI.out.2.2.2 rfl (by decide) _ _ _ rfl (((own_below OWN.out HB1.out).alloc _).alloc _) ⟨w1.heap.size + 1, 0, none⟩ 1 1 [.int .i64 O.kind, .string ⟨O.text.toArray⟩, .int .i64 O.n, .int .i64 p] rfl rfl (cell_four_new1 _ _ _ _ _ _ _) (by simp [Value.oneCell']) (by unfold maxLen; omega) (by omega) (by simp; omega) ?_; intro v' w2 hown' hgrow _)
     | (go_at_call 76; refine (l1Gap_any s _ _ hms (by omega) (by omega)).mono ?_; rintro e w' ⟨rfl, hw⟩; have hw2 := hw.symm; clear hw; subst hw2; rw [HTN.out]))
    have R1 : Hid (w2.ownsRow (w.heap.size + 1) 120 4 v' (pre ++ [Tok.mk O.kind O.text O.n p]).length (tokRow (pre ++ [Tok.mk O.kind O.text O.n p]))) := by
     show World.ownsRow _ _ _ _ _ _ _; rw [tokRow_snoc, List.length_append]; exact hown'
    have R2 := hid ((((HB.out.trans (HB1.out.mono hsz)).alloc (by omega) _).alloc (by simp; omega) _).grown hgrow (by simp; omega) (fun k e => (OWN.out.lt k e).1))
    clear hown' hgrow
    go_roundw
    case rel => exact ⟨p + O.size + gapN false (s.data.toList.drop (p + O.size)), f, pre ++ [Tok.mk O.kind O.text O.n p], by go_num, by omega, by omega, by simp; omega, R1.out, R2.out, NEXT.out⟩
    case measure => simp [intOf]; omega
   ·have HV : Hid (oneV O p = .tuple #[.agg #[.int .i64 0, .string ⟨#[]⟩, .int .i64 0, .int .i64 0], .int .i64 0, .int .i64 O.code]) := if_neg hc
    have HE : Hid (R = ([], O.code, p)) := by
     show _ = _; rw [← HR.out, scanRest_bad HREST.out hlt' (by rw [len_size]; exact hl) (by rw [HO.out]; exact hc), HO.out]
    have hc' : ((O.code : Int) != 0) = true := by simp; omega
    have hRe := HE.out
    subst hRe
    clear hc HE HR
    go_wp2_with (first
     | (go_at_call 77; refine (l1One_any s p _ hl hlt).mono ?_; rintro e w1 ⟨rfl, hb⟩; rw [HO.out, HV.out]; have HB1 := hid (HB.out.trans (hb.mono hsz)); have hz1 : w.heap.size + 1 ≤ w1.heap.size := Nat.le_trans hsz hb.size; have hz2 : w.heap.size < w1.heap.size := hz1; clear hb; obtain ⟨k0, k1, k2, k3⟩ := flt_cells HB1.out))
    refine bodyPost_ret (v := .tuple #[.slice (some ⟨w1.heap.size + 1, 0, none⟩) 0 0, .agg #[.int .i64 O.code, .int .i64 p]]) (by simp [results, Tryz.results51, go_sem, k0, k1, hz2]) rfl ⟨_, rfl, ?_, ?_⟩
    ·have h := fun W => World.ownsRow_made (w := World.alloc W (.cells #[.int .i64 0, .string ⟨#[]⟩, .int .i64 0, .int .i64 0] 120)) (base := w.heap.size) (e := 120) (size := 4) #[] 0
     have h2 := h ((w1.setCell ⟨w.heap.size, 0, none⟩ (.int .i64 O.code)).setCell ⟨w.heap.size, 1, none⟩ (.int .i64 p)) (by simp; omega) (by unfold maxLen; omega) rfl
     simpa [tokRow] using h2
    ·refine Below.alloc (Below.alloc ?_ (by simp; omega) _) (by simp; omega) _
     exact ((((Below.refl w.heap.size w).alloc (Nat.le_refl _) _).trans (HB1.out.mono (by omega))).setCell (p := ⟨w.heap.size, 0, none⟩) (Nat.le_refl _) _).setCell (p := ⟨w.heap.size, 1, none⟩) (Nat.le_refl _) _
  ·have HE : Hid (R = (pre, 0, 0)) := by
    show _ = _; rw [← HR.out, scanRest_end HREST.out (by rw [len_size]; omega) (by rw [len_size]; exact hl)]
   obtain ⟨k0, k1, k2, k3⟩ := flt_cells HB.out
   have hRe := HE.out
   subst hRe
   clear HE HR
   go_wp2
   refine bodyPost_ret (v := .tuple #[u4, .agg #[.int .i64 0, .int .i64 0]]) (by simp [results, Tryz.results51, go_sem, k0, k1]) rfl ⟨_, rfl, ?_, ?_⟩
   ·exact own_base (ownsRow_setCell_below (ownsRow_setCell_below OWN.out (a := ⟨w.heap.size, 0, none⟩) (Nat.lt_succ_self _) _) (a := ⟨w.heap.size, 1, none⟩) (Nat.lt_succ_self _) _) (by omega)
   ·exact ((((Below.refl w.heap.size w).alloc (Nat.le_refl _) _).trans (HB.out.mono (by omega))).setCell (p := ⟨w.heap.size, 0, none⟩) (Nat.le_refl _) _).setCell (p := ⟨w.heap.size, 1, none⟩) (Nat.le_refl _) _
end Go.Proofs.YtbakebdfmdepnaaGreatDoor.K
namespace Go.Proofs.YtbakebdfmdepnaaGreatDoor
open Go.RowKit
theorem l2KidsOk_any (kind : Int) (b N cap g o m c : Nat) (nd : Nat → Nd) (ks : Nat → Nat) (w : World) (hm : m ≤ 1000000) (hcm : m ≤ c) (hb : b < w.heap.size) (hg : g < w.heap.size) (hn : NodesAt w b N nd) (hk : PlacesAt w g o m N ks) :
  Calls Tryz.prog 26 #[.agg #[.slice (some ⟨b, 0, none⟩) N cap], .int .i64 kind, .slice (some ⟨g, o, none⟩) m c] w fun e w' => Says e (KidsOk kind m (fun i => nd (ks i))) ∧ Below w.heap.size w w' := by
 by_cases h12 : kind = 12
 ·subst h12; exact KO_12 b N cap g o m c nd ks w hm hcm hb hg hn hk
 ·have h : KO kind := by
   by_cases a : kind = 1 ∨ kind = 6 ∨ kind = 16
   ·exact KO_A kind a
   ·by_cases b : kind = 2 ∨ kind = 3 ∨ kind = 4 ∨ kind = 5 ∨ kind = 7 ∨ kind = 8
    ·exact KO_B kind b
    ·by_cases c : kind = 10 ∨ kind = 11 ∨ kind = 13 ∨ kind = 14 ∨ kind = 17
     ·exact KO_C kind c
     ·by_cases d : kind = 18 ∨ kind = 19 ∨ kind = 21 ∨ kind = 22
      ·exact KO_D kind d
      ·by_cases e9 : kind = 9
       ·subst e9; exact KO_9
       ·by_cases e15 : kind = 15
        ·subst e15; exact KO_15
        ·by_cases e20 : kind = 20
         ·subst e20; exact KO_20
         ·by_cases e23 : kind = 23
          ·subst e23; exact KO_23
          ·by_cases e24 : kind = 24
           ·subst e24; exact KO_24
           ·exact KO_E kind (by omega)
  exact h b N cap g o m c nd ks w hm hb hg hn hk
end Go.Proofs.YtbakebdfmdepnaaGreatDoor
namespace Go.Proofs.YtbakebdfmdepnaaGreatDoor
open Go.RowKit
set_option maxRecDepth 20000
section
variable {s : Ds} {ov0 : Value} {w0 : World} {p n : Nat} {bad : Bool} {w : World}
theorem tok_at (h : Ad s ov0 w0 p bad n w) :
  Calls Tryz.prog 83 #[.pointer (some ⟨s.D, 0, none⟩)] w fun e w' => ∃ (k m q : Int) (t : ByteArray), e = .returned (.agg #[.int .i64 k, .string t, .int .i64 m, .int .i64 q]) ∧ t.size ≤ 1000 ∧ (k ≠ 0 → p < s.T) ∧ Ad s ov0 w0 p bad n w' := by
 obtain ⟨ov, h1, h2⟩ := h
 refine (tok_dk h1).mono ?_
 rintro e w' ⟨k, m, q, t, rfl, a, b, c⟩
 exact ⟨k, m, q, t, rfl, a, b, ov, h1.next c, h2.next c⟩
theorem stop_at (h : Ad s ov0 w0 p bad n w) :
  Calls Tryz.prog 84 #[.pointer (some ⟨s.D, 0, none⟩)] w fun e w' => e = .returned (.tuple #[]) ∧ Ad s ov0 w0 p true n w' := by
 obtain ⟨ov, h1, h2⟩ := h
 refine (stop_dk h1).mono ?_
 rintro e w' ⟨rfl, a, b⟩
 exact ⟨rfl, ov, a, h2.trans b⟩
theorem is_at (h : Ad s ov0 w0 p bad n w) (x : ByteArray) :
  Calls Tryz.prog 97 #[.pointer (some ⟨s.D, 0, none⟩), .string x] w fun e w' => (e = .returned (.bool true) ∧ p < s.T ∧ Ad s ov0 w0 p bad n w') ∨ (e = .returned (.bool false) ∧ Ad s ov0 w0 p bad n w') := by
 obtain ⟨ov, h1, h2⟩ := h
 refine (is_dk h1 x).mono ?_
 rintro e w' ⟨b, rfl, a, c⟩
 cases b
 ·exact .inr ⟨rfl, ov, h1.next c, h2.next c⟩
 ·exact .inl ⟨rfl, (a rfl).2, ov, h1.next c, h2.next c⟩
theorem take_at (h : Ad s ov0 w0 p bad n w) (x : ByteArray) :
  Calls Tryz.prog 78 #[.pointer (some ⟨s.D, 0, none⟩), .string x] w fun e w' => (e = .returned (.bool true) ∧ p < s.T ∧ Ad s ov0 w0 (p + 1) false n w') ∨ (e = .returned (.bool false) ∧ Ad s ov0 w0 p bad n w') := by
 obtain ⟨ov, h1, h2⟩ := h
 refine (take_dk h1 x).mono ?_
 rintro e w' (⟨rfl, rfl, a, b, c⟩ | ⟨rfl, b, c⟩)
 ·exact .inl ⟨rfl, a, ov, b, h2.trans c⟩
 ·exact .inr ⟨rfl, ov, b, h2.trans c⟩
theorem need_to (h : Ad s ov0 w0 p bad n w) (x : ByteArray) :
  Calls Tryz.prog 81 #[.pointer (some ⟨s.D, 0, none⟩), .string x] w fun e w' => e = .returned (.tuple #[]) ∧ ∃ p' bad', p ≤ p' ∧ p' ≤ p + 1 ∧ (bad = true → bad' = true) ∧ (p' = p + 1 ∨ bad' = true) ∧ Ad s ov0 w0 p' bad' n w' := by
 obtain ⟨ov, h1, h2⟩ := h
 refine (need_dk h1 x).mono ?_
 rintro e w' ⟨rfl, p', bad', a, b, c, c2, d, f⟩
 exact ⟨rfl, p', bad', a, b, c, c2, ov, d, h2.trans f⟩
theorem need_at (h : Ad s ov0 w0 p bad n w) (x : ByteArray) :
  Calls Tryz.prog 81 #[.pointer (some ⟨s.D, 0, none⟩), .string x] w fun e w' => e = .returned (.tuple #[]) ∧ ∃ p' bad', p ≤ p' ∧ p' ≤ p + 1 ∧ Ad s ov0 w0 p' bad' n w' := by
 refine (need_to h x).mono ?_
 rintro e w' ⟨rfl, p', bad', a, b, c, c2, d⟩
 exact ⟨rfl, p', bad', a, b, d⟩
theorem name_at9 (h : Ad s ov0 w0 p bad n w) :
  Calls Tryz.prog 79 #[.pointer (some ⟨s.D, 0, none⟩)] w fun e w' => ∃ (t : ByteArray) (p' : Nat) (bad' : Bool), e = .returned (.string t) ∧ t.size ≤ 1000 ∧ p ≤ p' ∧ p' ≤ p + 1 ∧ (p < p' ∨ bad' = true) ∧ Ad s ov0 w0 p' bad' n w' := by
 obtain ⟨ov, h1, h2⟩ := h
 refine (name_dk h1).mono ?_
 rintro e w' ⟨t, p', bad', rfl, a, b, c, d, f, g⟩
 exact ⟨t, p', bad', rfl, a, b, c, d, ov, f, h2.trans g⟩
theorem put_at9 (h : Ad s ov0 w0 p bad n w) (x : Nd) (hx : x.text.size ≤ 1000) (hn : n ≤ 1000000) :
  Calls Tryz.prog 53 #[.pointer (some ⟨s.D, 0, none⟩), .agg #[.int .i64 x.kind, .int .i64 x.op, .int .i64 x.n, .string x.text, .int .i64 x.kids]] w fun e w' => e = .returned (.tuple #[]) ∧ Ad s ov0 w0 p bad (n + 1) w' := by
 obtain ⟨ov, h1, h2⟩ := h
 refine (put_dk h1 x hx hn).mono ?_
 rintro e w' ⟨rfl, ov', a, b⟩
 exact ⟨rfl, ov', a, h2.trans b⟩
theorem Ad.inc (h : Ad s ov0 w0 p bad n w) (hp : p < s.T) : Ad s ov0 w0 (p + 1) bad n (w.setCell ⟨s.D, 2, none⟩ (.int .i64 ((p : Int) + 1))) := by
 obtain ⟨ov, h1, h2⟩ := h
 exact ⟨ov, h1.inc hp, h2.trans (Dt.set s ov w 2 _)⟩
theorem Ad.cells (h : Ad s ov0 w0 p bad n w) : w.cell? ⟨s.D, 0, none⟩ = some (.slice s.ta s.T s.tc) ∧ w.cell? ⟨s.D, 2, none⟩ = some (.int .i64 p) ∧ w.cell? ⟨s.D, 3, none⟩ = some (.bool bad) ∧ w.frozen? ⟨s.D, 2, none⟩ = false := by
 obtain ⟨ov, h1, h2⟩ := h
 obtain ⟨c0, c1, c2, c3, c5⟩ := h1.cells
 exact ⟨c0, c2, c3, h1.fz 2⟩
end
def deskP (s : Ds) (w : World) : Nat := match w.cell? ⟨s.D, 2, none⟩ with
 | some (.int _ i) => i.toNat
 | _ => 0
theorem Ad.deskP {s : Ds} {ov0 : Value} {w0 : World} {p n : Nat} {bad : Bool} {w : World} (h : Ad s ov0 w0 p bad n w) : deskP s w = p := by
 unfold Proofs.YtbakebdfmdepnaaGreatDoor.deskP
 rw [h.cells.2.1]
 simp
def DE (c : Nat) (s : Ds) (ov0 : Value) (w0 : World) (p n : Nat) (e : Ending) (w' : World) : Prop := e = .returned (.tuple #[]) ∧ ∃ p' bad' n', p ≤ p' ∧ n ≤ n' ∧ n' + 2 * p ≤ n + 2 * p' + c ∧ Ad s ov0 w0 p' bad' n' w'
def DI9 (s : Ds) (ov0 : Value) (w0 : World) (p n : Nat) (e : Ending) (w' : World) : Prop := ∃ m p' : Nat, ∃ bad' n', e = .returned (.int .i64 m) ∧ m ≤ p' - p + 1 ∧ p ≤ p' ∧ n ≤ n' ∧ n' + 2 * p ≤ n + 2 * p' + 1 ∧ Ad s ov0 w0 p' bad' n' w'
def EOk9 (s : Ds) (p : Nat) : Prop := ∀ (bad : Bool) (n : Nat) (ov0 : Value) (w0 w : World), Ad s ov0 w0 p bad n w → n + 2 * s.T ≤ 400000 + 2 * p → Calls Tryz.prog 82 #[.pointer (some ⟨s.D, 0, none⟩)] w (DE 0 s ov0 w0 p n)
def OpsOk9 (s : Ds) (r : Int) (p : Nat) : Prop := ∀ (bad : Bool) (n : Nat) (ov0 : Value) (w0 w : World), Ad s ov0 w0 p bad n w → n + 2 * s.T ≤ 400000 + 2 * p → Calls Tryz.prog 98 #[.pointer (some ⟨s.D, 0, none⟩), .int .i64 r] w (DE 0 s ov0 w0 p n)
theorem Ad.comp {s : Ds} {ov0 ov1 : Value} {w0 w1 : World} {p n : Nat} {bad : Bool} {w : World} (h : Ad s ov1 w1 p bad n w) (k : Dt s ov0 w0 ov1 w1) : Ad s ov0 w0 p bad n w := by
 obtain ⟨ov, a, b⟩ := h
 exact ⟨ov, a, k.trans b⟩
theorem Ad.box {s : Ds} {ov0 : Value} {w0 : World} {p n : Nat} {bad : Bool} {w : World} (h : Ad s ov0 w0 p bad n w) (o : Obj) :
  ∃ ov1, Dt s ov0 w0 ov1 (w.alloc o) ∧ Ad s ov1 (w.alloc o) p bad n (w.alloc o) ∧ ∀ p' bad' n' w', Ad s ov1 (w.alloc o) p' bad' n' w' → w'.heap[w.heap.size]? = some o := by
 obtain ⟨ov, h1, h2⟩ := h
 have hb := (Below.refl w.heap.size w).alloc (Nat.le_refl _) o
 refine ⟨ov, h2.next hb, ⟨ov, h1.next hb, Dt.refl _ _ _⟩, ?_⟩
 rintro p' bad' n' w' ⟨ov', _, b⟩
 refine (b.sv.block w.heap.size (by simp) fun e => ?_).trans (heap_alloc_new w o)
 rcases e with e | e
 ·have := h1.lt
  omega
 ·obtain ⟨O, _, h8, _⟩ := h1.out
  obtain ⟨_, cur, hc⟩ := own_loD h8 _ e
  have := (Array.getElem?_eq_some_iff.1 hc).1
  omega
theorem own_two {W : World} {B e size n : Nat} {v : Value} {xs : List Value} (h : W.ownsRow B e size v n xs) (o : Obj) : (W.alloc o).ownsRow B e size v n xs := own_keepC h fun _ hr => Below.heap_alloc _ _ _ (own_lt h hr).2
def EltAt (W : World) (b : Nat) (t : ByteArray) (k : Nat) : Prop := ∀ j u, [Value.string t, .int .i64 k][j]? = some u → W.cell? ((⟨b, 0, none⟩ : Addr).add j) = some u
theorem EltAt.keep {W W' : World} {b : Nat} {t : ByteArray} {k : Nat} (h : EltAt W b t k) (hk : W'.heap[b]? = W.heap[b]?) : EltAt W' b t k := by
 intro j u hj
 have e1 : ((⟨b, 0, none⟩ : Addr).add j).block = b := by unfold Addr.add; split <;> rfl
 rw [World.cell?_of_block (w := W) (by rw [e1]; exact hk)]
 exact h j u hj
theorem NodeAt.alloc {W : World} {b : Nat} {y : Nd} (h : NodeAt W b y) (o : Obj) : NodeAt (W.alloc o) b y := (Below.heap_alloc W o b (Array.getElem?_eq_some_iff.1 h).1).trans h
structure More (x : Mx) (w W : World) (L : List (ByteArray × Nat)) (k nL gm cm : Nat) : Prop where
 kn : KnR W gm cm (L ++ [((x.nd k).text, k)])
 bel : Below w.heap.size w W
 ge : w.heap.size ≤ gm
 node : NodeAt W w.heap.size (x.nd k)
theorem mends_from {x : Mx} {w wr w1 : World} {F : Nat × Nat → Prop} {bn : Nat → Int} {e : List Ev} (hs : Sv x.S w wr) (h : x.Ends wr w1 F bn e) : x.Ends w w1 F bn e := by
 obtain ⟨s, r⟩ := h
 exact ⟨hs.trans s, r⟩
theorem kids_let {nd : Nat → Nd} {o : List (List Nat)} {k : Nat} (h : FitAt nd o k) (hk : (nd k).kind = 14) : ∃ a b, o.getD k [] = [a, b] := by
 obtain ⟨_, h⟩ := h
 have hl : (o.getD k []).length = 2 := by
  rcases h with h | h | h | h | h | h | h | h | h | h | h | h <;> omega
 match hq : o.getD k [], hl with
 | [a, b], _ => exact ⟨a, b, rfl⟩
theorem kids_param {nd : Nat → Nd} {o : List (List Nat)} {k q : Nat} (h : FitAt nd o k) (hk : (nd k).kind = 15 ∨ (nd k).kind = 20) {ps : List Nat} {l : Nat} (hp : o.getD k [] = ps ++ [l]) (hq : q ∈ ps) : (nd q).kind = 19 := by
 obtain ⟨_, h⟩ := h
 rw [hp] at h
 have hh : ∀ i, i + 1 < (ps ++ [l]).length → (nd ((ps ++ [l]).getD i 0)).kind = 19 := by
  rcases h with h | h | h | h | h | h | h | h | h | h | h | h
  all_goals first | omega | exact h.2.2.2.1
 obtain ⟨i, hi, rfl⟩ := List.getElem_of_mem hq
 have := hh i (by simp; omega)
 rw [List.getD_eq_getElem?_getD, List.getElem?_append_left hi, List.getElem?_eq_getElem hi] at this
 exact this
theorem param_one {nd : Nat → Nd} {o : List (List Nat)} {k : Nat} (h : FitAt nd o k) (hk : (nd k).kind = 19) : (o.getD k []).length ≤ 1 := by
 obtain ⟨_, h⟩ := h
 rcases h with h | h | h | h | h | h | h | h | h | h | h | h <;> omega
set_option maxHeartbeats 4000000 in
theorem go1_any (x : Mx) (hx : x.Ok) (k : Nat) (hkN : k < x.N) (ih : ∀ j, j < k → GoOk x j) : GoOk x k := by
 intro L g c F cf bn w hb h ht hok hk hSg
 have e0 := wk_eq hx.down (hx.kidded k hkN) (envL L)
 obtain ⟨evs, hev⟩ : ∃ evs, evs = wk x.nd x.o k (envL L) := ⟨_, rfl⟩
 rw [← hev]
 rw [e0] at hev
 clear e0
 have HEV := hid hev
 clear hev
 obtain ⟨f0, f1, f2, f3⟩ := ht.now.four
 obtain ⟨c0, c1, c2, c3, c4⟩ := ht.now.2.1 k hkN
 have HX := hid hx
 have HIH := hid ih
 have H := hid h
 have HT := hid ht
 have HOK := hid hok
 have HK := hid hk
 have HSg := hid hSg
 have hN5 := hx.N
 obtain ⟨ad, cc, hk1, hk2, hk3, hk4⟩ := Mx.kids hx ht k hkN
 obtain ⟨kl, hkl⟩ : ∃ kl, x.o.getD k [] = kl := ⟨_, rfl⟩
 rw [hkl] at hk4 hk1 hk3
 have HKL := hid hkl
 have HK4 := hid hk4
 have HK3 := hid hk3
 have hb1 : ∀ O, Below w.heap.size w (w.alloc O) := fun O => (Below.refl _ _).alloc (Nat.le_refl _) O
 have g0 : ∀ O, (w.alloc O).cell? ⟨x.wb, 1, none⟩ = _ := fun O => (ht _ (Sv.of_below (hb1 O))).four.2.1
 have k1 : ∀ O, (w.alloc O).cell? ⟨x.gk, k, none⟩ = _ := fun O => (hk4 _ (Sv.of_below (hb1 O))).1
 have HB1 := hid hb1
 obtain ⟨nL, hnL⟩ : ∃ nL, L.length = nL := ⟨_, rfl⟩
 have HNL := hid hnL
 rw [hnL] at hb ⊢
 obtain ⟨i0, hi, hz0, hz1, hz2⟩ := info_parts info_kn
 have HHI := hid (And.intro hi (And.intro hz0 (And.intro hz1 hz2)))
 clear hi hz0 hz1 hz2 hnL hkl hk4 hk3 hx ih h ht hok hk hSg hb1
 go_enter Tryz.func29, Tryz.ntmps29
 have HND : Hid (NodeAt (w.alloc (.cells #[.int .i64 (x.nd k).kind, .int .i64 (x.nd k).op, .int .i64 (x.nd k).n, .string (x.nd k).text, .int .i64 (x.nd k).kids] 33)) w.heap.size (x.nd k)) := heap_alloc_new w _
 have B1 : Hid (Below w.heap.size w ((w.alloc (.cells #[.int .i64 (x.nd k).kind, .int .i64 (x.nd k).op, .int .i64 (x.nd k).n, .string (x.nd k).text, .int .i64 (x.nd k).kids] 33)).alloc (.cells #[] 62)).drew) := ((HB1.out _).alloc (by simp) _).drew
 have B2 : Hid (Below w.heap.size w (((w.alloc (.cells #[.int .i64 (x.nd k).kind, .int .i64 (x.nd k).op, .int .i64 (x.nd k).n, .string (x.nd k).text, .int .i64 (x.nd k).kids] 33)).alloc (.cells #[] 62)).alloc (.cells #[.string (x.nd k).text, .int .i64 k] 62)).drew) := (((HB1.out _).alloc (by simp) _).alloc (by simp; omega) _).drew
 have B3 : Hid (Below w.heap.size w (((w.alloc (.cells #[.int .i64 (x.nd k).kind, .int .i64 (x.nd k).op, .int .i64 (x.nd k).n, .string (x.nd k).text, .int .i64 (x.nd k).kids] 33)).alloc (.cells #[.string (x.nd k).text, .int .i64 k] 62)).alloc (.cells #[] 62)).drew) := (((HB1.out _).alloc (by simp) _).alloc (by simp; omega) _).drew
 have HKC : Hid (∀ W, Below w.heap.size w W → ∀ j u, (knRow L)[j]? = some u → W.cell? ((⟨g, 0, none⟩ : Addr).add j) = some u) := fun W hW => (HK.out.keep (hW.block g HK.out.lt)).cells
 have W1 : Hid (World.ownsRow ((w.alloc (.cells #[.int .i64 (x.nd k).kind, .int .i64 (x.nd k).op, .int .i64 (x.nd k).n, .string (x.nd k).text, .int .i64 (x.nd k).kids] 33)).alloc (.cells #[] 62)).drew w.heap.size 62 2 (.slice (some ⟨w.heap.size + 1, 0, none⟩) 0 0) 0 []) := by
  have := World.ownsRow_made (base := w.heap.size) (e := 62) (size := 2) (w.alloc (.cells #[.int .i64 (x.nd k).kind, .int .i64 (x.nd k).op, .int .i64 (x.nd k).n, .string (x.nd k).text, .int .i64 (x.nd k).kids] 33)) #[] 0 (by simp; try omega) (by unfold maxLen; omega) rfl
  rw [World.size_alloc] at this
  exact this
 have W2 : Hid (World.ownsRow (((w.alloc (.cells #[.int .i64 (x.nd k).kind, .int .i64 (x.nd k).op, .int .i64 (x.nd k).n, .string (x.nd k).text, .int .i64 (x.nd k).kids] 33)).alloc (.cells #[] 62)).alloc (.cells #[.string (x.nd k).text, .int .i64 k] 62)).drew w.heap.size 62 2 (.slice (some ⟨w.heap.size + 1, 0, none⟩) 0 0) 0 []) := own_two (W := (w.alloc (.cells #[.int .i64 (x.nd k).kind, .int .i64 (x.nd k).op, .int .i64 (x.nd k).n, .string (x.nd k).text, .int .i64 (x.nd k).kids] 33)).alloc (.cells #[] 62)) W1.out _
 have W3 : Hid (World.ownsRow (((w.alloc (.cells #[.int .i64 (x.nd k).kind, .int .i64 (x.nd k).op, .int .i64 (x.nd k).n, .string (x.nd k).text, .int .i64 (x.nd k).kids] 33)).alloc (.cells #[.string (x.nd k).text, .int .i64 k] 62)).alloc (.cells #[] 62)).drew w.heap.size 62 2 (.slice (some ⟨w.heap.size + 1 + 1, 0, none⟩) 0 0) 0 []) := by
  have := World.ownsRow_made (base := w.heap.size) (e := 62) (size := 2) ((w.alloc (.cells #[.int .i64 (x.nd k).kind, .int .i64 (x.nd k).op, .int .i64 (x.nd k).n, .string (x.nd k).text, .int .i64 (x.nd k).kids] 33)).alloc (.cells #[.string (x.nd k).text, .int .i64 k] 62)) #[] 0 (by simp; try omega) (by unfold maxLen; omega) rfl
  rw [World.size_alloc, World.size_alloc] at this
  exact this
 have T2 : Hid (EltAt (((w.alloc (.cells #[.int .i64 (x.nd k).kind, .int .i64 (x.nd k).op, .int .i64 (x.nd k).n, .string (x.nd k).text, .int .i64 (x.nd k).kids] 33)).alloc (.cells #[] 62)).alloc (.cells #[.string (x.nd k).text, .int .i64 k] 62)).drew (w.heap.size + 1 + 1) (x.nd k).text k) := by
  have := cell_two_new ((w.alloc (.cells #[.int .i64 (x.nd k).kind, .int .i64 (x.nd k).op, .int .i64 (x.nd k).n, .string (x.nd k).text, .int .i64 (x.nd k).kids] 33)).alloc (.cells #[] 62)) (.string (x.nd k).text) (.int .i64 k) 62
  rw [World.size_alloc, World.size_alloc] at this
  exact this
 have T3 : Hid (EltAt (((w.alloc (.cells #[.int .i64 (x.nd k).kind, .int .i64 (x.nd k).op, .int .i64 (x.nd k).n, .string (x.nd k).text, .int .i64 (x.nd k).kids] 33)).alloc (.cells #[.string (x.nd k).text, .int .i64 k] 62)).alloc (.cells #[] 62)).drew (w.heap.size + 1) (x.nd k).text k) := by
  have := cell_two_new (w.alloc (.cells #[.int .i64 (x.nd k).kind, .int .i64 (x.nd k).op, .int .i64 (x.nd k).n, .string (x.nd k).text, .int .i64 (x.nd k).kids] 33)) (.string (x.nd k).text) (.int .i64 k) 62
  rw [World.size_alloc] at this
  exact EltAt.keep (W := (w.alloc (.cells #[.int .i64 (x.nd k).kind, .int .i64 (x.nd k).op, .int .i64 (x.nd k).n, .string (x.nd k).text, .int .i64 (x.nd k).kids] 33)).alloc (.cells #[.string (x.nd k).text, .int .i64 k] 62)) this (Below.heap_alloc _ _ _ (by simp))
 go_upto_region 2 with fail
 go_cut [8] (fun vm wx => ∃ gm cm, vm = .slice (some ⟨gm, 0, none⟩) (nL + 1) cm ∧ More x w wx L k nL gm cm)
 case first =>
  go_region_law (first
   | (refine step_append_own_at rfl (.tmp 26) (.tmp 27) 59 rfl w.heap.size 62 i0 (.agg #[.string ⟨#[]⟩, .int .i64 0]) 2 24 Tryz.underlying59 HHI.out.1 HHI.out.2.1 HHI.out.2.2.1 HHI.out.2.2.2 rfl (by decide) (.slice (some ⟨w.heap.size + 1, 0, none⟩) 0 0) 0 [] (by simp [Act.eval, Act.put]) W1.out ⟨g, 0, none⟩ nL c (knRow L) (by simp [Act.eval, Act.put]) (by rw [knRow_length, HNL.out]) (HKC.out _ B1.out) (knRow_one L) (by unfold maxLen; omega) (by omega) B1.out.size ?_; intro v1 w2 o1 g1 nn1 b1; rw [Nat.zero_add, List.nil_append] at o1; have hnn1 := some_not_nil nn1; obtain ⟨g1', c1', rfl, hbg, hkr⟩ := KnR.of_own o1 HNL.out hnn1; have O1 := hid o1; have HN2 : Hid (NodeAt w2 w.heap.size (x.nd k)) := (g1.block w.heap.size (by first | omega | (simp; omega) | simp) (by simp [Value.ownBlock] <;> omega)).trans (HND.out.alloc _); have HB2 : Hid (Below w.heap.size w w2) := B1.out.grown g1 B1.out.size (fun q e => by simp [Value.ownBlock] at e; omega); have n3 := HN2.out.cells.2.2.2.1; have hw2 := (Array.getElem?_eq_some_iff.1 HN2.out).1; have hg1 : w.heap.size < g1' := (by rcases b1 with h | h <;> (simp [Value.ownBlock] at h; omega)); clear o1 g1 nn1 b1 hnn1 hkr)
   | (refine step_append_own_at rfl (.tmp 26) (.tmp 27) 59 rfl w.heap.size 62 i0 (.agg #[.string ⟨#[]⟩, .int .i64 0]) 2 24 Tryz.underlying59 HHI.out.1 HHI.out.2.1 HHI.out.2.2.1 HHI.out.2.2.2 rfl (by decide) (.slice (some ⟨w.heap.size + 1, 0, none⟩) 0 0) 0 [] (by simp [Act.eval]) W2.out ⟨g, 0, none⟩ nL c (knRow L) (by simp [Act.eval]) (by rw [knRow_length, HNL.out]) (HKC.out _ B2.out) (knRow_one L) (by unfold maxLen; omega) (by omega) B2.out.size ?_; intro v1 w2 o1 g1 nn1 b1; rw [Nat.zero_add, List.nil_append] at o1; have hnn1 := some_not_nil nn1; obtain ⟨g1', c1', rfl, hbg, hkr⟩ := KnR.of_own o1 HNL.out hnn1; have O1 := hid o1; have HN2 : Hid (NodeAt w2 w.heap.size (x.nd k)) := (g1.block w.heap.size (by first | omega | (simp; omega) | simp) (by simp [Value.ownBlock] <;> omega)).trans ((HND.out.alloc _).alloc _); have HB2 : Hid (Below w.heap.size w w2) := B2.out.grown g1 B2.out.size (fun q e => by simp [Value.ownBlock] at e; omega); have n3 := HN2.out.cells.2.2.2.1; have hw2 := (Array.getElem?_eq_some_iff.1 HN2.out).1; have hg1 : w.heap.size < g1' := (by rcases b1 with h | h <;> (simp [Value.ownBlock] at h; omega)); have HEL := hid (EltAt.keep T2.out (g1.block _ (by simp) (by simp [Value.ownBlock]))); clear o1 g1 nn1 b1 hnn1 hkr)
   | (refine step_append_own_at rfl (.tmp 26) (.tmp 27) 59 rfl w.heap.size 62 i0 (.agg #[.string ⟨#[]⟩, .int .i64 0]) 2 24 Tryz.underlying59 HHI.out.1 HHI.out.2.1 HHI.out.2.2.1 HHI.out.2.2.2 rfl (by decide) (.slice (some ⟨w.heap.size + 1 + 1, 0, none⟩) 0 0) 0 [] (by simp [Act.eval]) W3.out ⟨g, 0, none⟩ nL c (knRow L) (by simp [Act.eval]) (by rw [knRow_length, HNL.out]) (HKC.out _ B3.out) (knRow_one L) (by unfold maxLen; omega) (by omega) B3.out.size ?_; intro v1 w2 o1 g1 nn1 b1; rw [Nat.zero_add, List.nil_append] at o1; have hnn1 := some_not_nil nn1; obtain ⟨g1', c1', rfl, hbg, hkr⟩ := KnR.of_own o1 HNL.out hnn1; have O1 := hid o1; have HN2 : Hid (NodeAt w2 w.heap.size (x.nd k)) := (g1.block w.heap.size (by first | omega | (simp; omega) | simp) (by simp [Value.ownBlock] <;> omega)).trans ((HND.out.alloc _).alloc _); have HB2 : Hid (Below w.heap.size w w2) := B3.out.grown g1 B3.out.size (fun q e => by simp [Value.ownBlock] at e; omega); have n3 := HN2.out.cells.2.2.2.1; have hw2 := (Array.getElem?_eq_some_iff.1 HN2.out).1; have hg1 : w.heap.size < g1' := (by rcases b1 with h | h <;> (simp [Value.ownBlock] at h; omega)); have HEL := hid (EltAt.keep T3.out (g1.block _ (by simp) (by simp [Value.ownBlock]))); clear o1 g1 nn1 b1 hnn1 hkr)
   | (refine step_append_own_at rfl (.tmp 28) (.tmp 33) 59 rfl w.heap.size 62 i0 (.agg #[.string ⟨#[]⟩, .int .i64 0]) 2 24 Tryz.underlying59 HHI.out.1 HHI.out.2.1 HHI.out.2.2.1 HHI.out.2.2.2 rfl (by decide) (.slice (some ⟨g1', 0, none⟩) nL c1') nL (knRow L) (by simp [Act.eval]) (own_two O1.out _) ⟨w2.heap.size, 0, none⟩ 1 1 [.string (x.nd k).text, .int .i64 k] (by simp [Act.eval]) rfl (cell_two_new w2 _ _ _) (by simp [Value.oneCell']) (by unfold maxLen; omega) (by omega) (by first | exact HB2.out.size | (simp; omega)) ?_; intro v3 w3 o3 g3 nn3 b3; have O3 := hid o3; have NN3 := hid (some_not_nil nn3); have HB3 : Hid (Below w.heap.size w w3) := Below.grown (HB2.out.alloc HB2.out.size _) g3 (by first | exact HB2.out.size | (simp; omega)) (fun q e => by simp [Value.ownBlock] at e; omega); have HN3 : Hid (NodeAt w3 w.heap.size (x.nd k)) := (g3.block w.heap.size (by first | omega | (simp; omega)) (by simp [Value.ownBlock]; omega)).trans (by first | exact HN2.out.alloc _ | exact HN2.out); clear o3 g3 nn3 b3)
   | (refine step_append_own_at rfl (.tmp 28) (.tmp 33) 59 rfl w.heap.size 62 i0 (.agg #[.string ⟨#[]⟩, .int .i64 0]) 2 24 Tryz.underlying59 HHI.out.1 HHI.out.2.1 HHI.out.2.2.1 HHI.out.2.2.2 rfl (by decide) (.slice (some ⟨g1', 0, none⟩) nL c1') nL (knRow L) (by simp [Act.eval]) O1.out ⟨w.heap.size + 1 + 1, 0, none⟩ 1 1 [.string (x.nd k).text, .int .i64 k] (by simp [Act.eval]) rfl HEL.out (by simp [Value.oneCell']) (by unfold maxLen; omega) (by omega) (by first | exact HB2.out.size | (simp; omega)) ?_; intro v3 w3 o3 g3 nn3 b3; have O3 := hid o3; have NN3 := hid (some_not_nil nn3); have HB3 : Hid (Below w.heap.size w w3) := Below.grown HB2.out g3 (by first | exact HB2.out.size | (simp; omega)) (fun q e => by simp [Value.ownBlock] at e; omega); have HN3 : Hid (NodeAt w3 w.heap.size (x.nd k)) := (g3.block w.heap.size (by first | omega | (simp; omega)) (by simp [Value.ownBlock]; omega)).trans (by first | exact HN2.out.alloc _ | exact HN2.out); clear o3 g3 nn3 b3)
   | (refine step_append_own_at rfl (.tmp 28) (.tmp 33) 59 rfl w.heap.size 62 i0 (.agg #[.string ⟨#[]⟩, .int .i64 0]) 2 24 Tryz.underlying59 HHI.out.1 HHI.out.2.1 HHI.out.2.2.1 HHI.out.2.2.2 rfl (by decide) (.slice (some ⟨g1', 0, none⟩) nL c1') nL (knRow L) (by simp [Act.eval]) O1.out ⟨w.heap.size + 1, 0, none⟩ 1 1 [.string (x.nd k).text, .int .i64 k] (by simp [Act.eval]) rfl HEL.out (by simp [Value.oneCell']) (by unfold maxLen; omega) (by omega) (by first | exact HB2.out.size | (simp; omega)) ?_; intro v3 w3 o3 g3 nn3 b3; have O3 := hid o3; have NN3 := hid (some_not_nil nn3); have HB3 : Hid (Below w.heap.size w w3) := Below.grown HB2.out g3 (by first | exact HB2.out.size | (simp; omega)) (fun q e => by simp [Value.ownBlock] at e; omega); have HN3 : Hid (NodeAt w3 w.heap.size (x.nd k)) := (g3.block w.heap.size (by first | omega | (simp; omega)) (by simp [Value.ownBlock]; omega)).trans (by first | exact HN2.out.alloc _ | exact HN2.out); clear o3 g3 nn3 b3))
  all_goals
   go_wp2_with fail
   go_meet
   case rel =>
    obtain ⟨gm, cm, rfl, hbm, hkm⟩ := KnR.of_own (L := L ++ [((x.nd k).text, k)]) (by rw [knRow_append]; exact O3.out) (by rw [List.length_append, HNL.out]; rfl) NN3.out
    exact ⟨gm, cm, rfl, hkm, HB3.out, hbm, HN3.out⟩
 case rest =>
  obtain ⟨gm, cm, rfl, hmore⟩ := hcut
  have HMO := hid hmore
  have HS2 : Hid (Sv x.S w wc) := Sv.of_below hmore.bel
  have HA2 := hid (H.out.go hmore.bel)
  have HSm : Hid (¬ x.S gm) := fun h => by have := H.out.lt gm h; have := hmore.ge; omega
  have HSn : Hid (¬ x.S w.heap.size) := fun h => absurd (H.out.lt _ h) (Nat.lt_irrefl _)
  have HKW : Hid (∀ W, Sv x.S w W → KnR W g c L) := fun W hW => HK.out.keep (hW.block g HK.out.lt HSg.out)
  have HGO : Hid (∀ j, j < k → ∀ (F : Nat × Nat → Prop) (cf : Nat → Nat) (bn : Nat → Int) (W : World), x.At W cf bn → Stb x.S W x.Tree → CodesOk cf F → Sv x.S w W →
    Calls Tryz.prog 29 #[.pointer (some ⟨x.wb, 0, none⟩), .int .i64 j, .slice (some ⟨g, 0, none⟩) nL c] W fun e w' => e = .returned (.tuple #[]) ∧ x.Ends W w' F bn (wk x.nd x.o j (envL L))) := fun j hj F cf bn W h1 h2 h3 h4 => by
   have := HIH.out j hj L g c F cf bn W (by rw [HNL.out]; omega) h1 h2 h3 (HKW.out W h4) HSg.out
   rw [HNL.out] at this
   exact this
  have HGM : Hid (∀ j, j < k → ∀ (F : Nat × Nat → Prop) (cf : Nat → Nat) (bn : Nat → Int) (W : World), x.At W cf bn → Stb x.S W x.Tree → CodesOk cf F → Sv x.S wc W →
    Calls Tryz.prog 29 #[.pointer (some ⟨x.wb, 0, none⟩), .int .i64 j, .slice (some ⟨gm, 0, none⟩) (nL + 1) cm] W fun e w' => e = .returned (.tuple #[]) ∧ x.Ends W w' F bn (wk x.nd x.o j ((envL L).ext (x.nd k).text k))) := fun j hj F cf bn W h1 h2 h3 h4 => by
   have := HIH.out j hj (L ++ [((x.nd k).text, k)]) gm cm F cf bn W (by rw [List.length_append, HNL.out]; simp; omega) h1 h2 h3 (HMO.out.kn.keep (h4.block gm HMO.out.kn.lt HSm.out)) HSm.out
   rw [List.length_append, HNL.out, envL_snoc] at this
   exact this
  clear f0 f1 f2 f3 c0 c1 c2 c3 c4 g0 k1 hmore HHI HB1
  obtain ⟨n0, n1, n2, n3, n4, _, _, _, _, _⟩ := HMO.out.node.cells
  by_cases h5 : (x.nd k).kind = 5
  ·have E : Hid (evs = useE x.nd (envL L) k) := by
    have := HEV.out
    unfold nodeE at this
    rw [if_pos h5] at this
    exact this
   rw [h5] at n0
   clear h5
   have HUSE := hid (use_any x HX.out k L g c F cf bn wc (by rw [HNL.out]; omega) HA2.out (HT.out.go HS2.out) HOK.out (HKW.out _ HS2.out).at hkN)
   rw [HNL.out] at HUSE
   go_wp2_with (first
    | (go_at_call 49; refine HUSE.out.mono ?_; rintro e w3 ⟨rfl, hen1⟩; have HE1 := hid hen1; clear hen1))
   go_end0
   rw [E.out]
   exact ⟨rfl, mends_from HS2.out HE1.out⟩
  by_cases h23 : (x.nd k).kind = 23
  ·have E : Hid (evs = []) := by
    have := HEV.out
    unfold nodeE at this
    rw [if_neg h5, if_neg (by omega), if_neg (by omega), if_pos h23] at this
    exact this
   rw [h23] at n0
   clear h23 h5
   go_wp2
   go_end0
   rw [E.out]
   exact ⟨rfl, HS2.out, cf, bn, HA2.out, HOK.out.congr (fun y => by simp [fls]), fun _ => rfl⟩
  by_cases h15 : (x.nd k).kind = 15 ∨ (x.nd k).kind = 20
  ·obtain ⟨ps, l, hpl, h8⟩ := kids_one (HX.out.fit k hkN) h15
   have hkl : kl = ps ++ [l] := HKL.out.symm.trans hpl
   have E : Hid (evs = (prm x.nd x.o (fun kn j => wk x.nd x.o j kn) ps (envL L) [] false).1 ++ wk x.nd x.o l (prm x.nd x.o (fun kn j => wk x.nd x.o j kn) ps (envL L) [] false).2) := by
    have := HEV.out
    unfold nodeE at this
    rw [if_neg h5, if_neg (by omega), if_pos h15] at this
    unfold fnE at this
    rw [hpl, List.dropLast_concat, List.getLastD_concat] at this
    exact this
   have hdn := HX.out.down k
   have hpN := HX.out.place k
   have hpar : ∀ q ∈ ps, (x.nd q).kind = 19 := fun q hq => kids_param (HX.out.fit k hkN) h15 hpl hq
   rw [hpl] at hdn hpN
   subst hkl
   rcases HK3.out with e | ⟨gg, rfl⟩
   ·simp at e
   have hle : (ps ++ [l]).length = ps.length + 1 := by simp
   rw [hle] at hk1
   have HFN := hid (function_m x HX.out k ps l L (fun q hq j hj => ⟨Nat.lt_trans (HX.out.down q j hj) (hdn q (by simp [hq])), HIH.out j (Nat.lt_trans (HX.out.down q j hj) (hdn q (by simp [hq])))⟩) (hdn l (by simp)) (HIH.out l (hdn l (by simp))) (fun q hq => hpN q (by simp [hq])) h8 (fun q hq => param_one (HX.out.fit q (hpN q (by simp [hq]))) (hpar q hq)) gg cc g c F cf bn wc hk1 (by rw [HNL.out]; omega)
    (fun W hW i hi => by
     rcases (HK4.out _ (HS2.out.trans hW)).2 with e | ⟨g', q', e, hc⟩
     ·simp at e
     ·cases e
      have := hc i (by simp; omega)
      rwa [Nat.zero_add] at this) HA2.out (HT.out.go HS2.out) HOK.out (HKW.out _ HS2.out) HSg.out)
   rw [HNL.out] at HFN
   rw [hle]
   clear hdn hpN hpar hpl
   rcases h15 with h15 | h15
   all_goals
    rw [h15] at n0
    clear h15 h5 h23
    go_wp2_with (first
     | (go_at_call 50; refine HFN.out.mono ?_; rintro e w3 ⟨rfl, hen1⟩; have HE1 := hid hen1; clear hen1))
    go_end0
    rw [E.out]
    exact ⟨rfl, mends_from HS2.out HE1.out⟩
  by_cases h14 : (x.nd k).kind = 14
  ·obtain ⟨z, y, hzr⟩ := kids_let (HX.out.fit k hkN) h14
   have hkl : kl = [z, y] := HKL.out.symm.trans hzr
   have E : Hid (evs = wk x.nd x.o z (envL L) ++ wk x.nd x.o y ((envL L).ext (x.nd k).text k)) := by
    have := HEV.out
    unfold nodeE at this
    rw [if_neg h5, if_pos (.inl h14), hzr] at this
    simp at this
    exact this
   have hdn := HX.out.down k
   rw [hzr] at hdn
   have hzk := hdn z (by simp)
   have hyk := hdn y (by simp)
   clear hdn hzr
   subst hkl
   rcases HK3.out with e | ⟨gg, rfl⟩
   ·cases e
   have HZC : Hid (∀ W, Sv x.S w W → W.cell? ⟨gg, 0, none⟩ = some (.int .i64 (z : Nat)) ∧ W.cell? ⟨gg, 1, none⟩ = some (.int .i64 (y : Nat))) := fun W hW => by
    rcases (HK4.out _ hW).2 with e | ⟨g', q', e, hc⟩
    ·cases e
    ·cases e; exact ⟨hc 0 (by simp), hc 1 (by simp)⟩
   obtain ⟨z0, z1⟩ := HZC.out _ HS2.out
   simp only [List.length_cons, List.length_nil] at *
   rw [h14] at n0
   clear h14 h5 h23 h15
   go_wp2_with (first
    | (go_at_call_of 29 (Value.int IntKind.i64 (z : Nat)); refine (HGO.out z hzk F cf bn wc HA2.out (HT.out.go HS2.out) HOK.out HS2.out).mono ?_; rintro e w3 ⟨rfl, hen1⟩; have HE1 := hid (mends_from HS2.out hen1); have HSC := hid hen1.1; clear hen1 z0 z1; obtain ⟨hs3, cf3, bn3, ha3, ho3, hn3⟩ := HE1.out; have HS3 := hid hs3; have HA3 := hid ha3; have HO3 := hid ho3; have HN3 := hid hn3; clear hs3 ha3 ho3 hn3; obtain ⟨z0, z1⟩ := HZC.out _ HS3.out)
    | (go_at_call_of 29 (Value.int IntKind.i64 (y : Nat)); refine (HGM.out y hyk _ cf3 bn3 w3 HA3.out (HT.out.go HS3.out) HO3.out HSC.out).mono ?_; rintro e w4 ⟨rfl, hen4⟩; have HE4 := hid (mends_join HS3.out HN3.out hen4); clear hen4))
   go_end0
   rw [E.out]
   exact ⟨rfl, HE4.out⟩
  by_cases h16 : (x.nd k).kind = 16
  ·obtain ⟨z, y, r', hzr⟩ := kids_two (HX.out.fit k hkN) (.inr h16)
   obtain ⟨r, hr⟩ : ∃ r, r = y :: r' := ⟨_, rfl⟩
   rw [← hr] at hzr
   clear hr
   have hkl : kl = z :: r := HKL.out.symm.trans hzr
   have E : Hid (evs = wk x.nd x.o z (envL L) ++ r.flatMap (fun j => wk x.nd x.o j ((envL L).ext (x.nd k).text k))) := by
    have := HEV.out
    unfold nodeE at this
    rw [if_neg h5, if_pos (.inr h16), hzr] at this
    exact this
   have hdn := HX.out.down k
   rw [hzr] at hdn
   have hzk := hdn z (by simp)
   have HRK : Hid (∀ j ∈ r, j < k) := fun j hj => hdn j (by simp [hj])
   have hl5 := HX.out.kids k
   rw [hzr] at hl5
   clear hdn hzr
   subst hkl
   rcases HK3.out with e | ⟨gg, rfl⟩
   ·cases e
   have HZC : Hid (∀ W, Sv x.S w W → W.cell? ⟨gg, 0, none⟩ = some (.int .i64 (z : Nat)) ∧ ∀ i, i < r.length → W.cell? ⟨gg, i + 1, none⟩ = some (.int .i64 (r.getD i 0 : Nat))) := fun W hW => by
    rcases (HK4.out _ hW).2 with e | ⟨g', q', e, hc⟩
    ·cases e
    ·cases e
     refine ⟨hc 0 (by simp), fun i hi => ?_⟩
     have := hc (i + 1) (by simp; omega)
     rw [Nat.zero_add] at this
     simpa using this
   obtain ⟨z0, _⟩ := HZC.out _ HS2.out
   obtain ⟨m, hm⟩ : ∃ m, r.length = m := ⟨_, rfl⟩
   have HM := hid hm
   simp only [List.length_cons] at *
   rw [hm] at hl5 hk1 ⊢
   rw [h16] at n0
   clear h16 h5 h23 h15 h14 hm
   go_wp2_with (first
    | (go_at_call 29; refine (HGO.out z hzk F cf bn wc HA2.out (HT.out.go HS2.out) HOK.out HS2.out).mono ?_; rintro e w3 ⟨rfl, hen1⟩; have HE1 := hid (mends_from HS2.out hen1); have HSC := hid hen1.1; clear hen1 z0))
   clear n0 n1 n2 n3 n4
   go_loopw [9] (fun i wr => ∃ j : Nat, j ≤ m ∧ i = .int .i64 ((j : Int) + 1) ∧ Sv x.S wc wr ∧ x.Ends w wr F bn (wk x.nd x.o z (envL L) ++ (r.take j).flatMap fun j => wk x.nd x.o j ((envL L).ext (x.nd k).text k))) (fun i _ => m + 1 - (intOf i).toNat)
   case atStart =>
    refine ⟨0, Nat.zero_le _, by go_num, HSC.out, ?_⟩
    rw [List.take_zero, List.flatMap_nil, List.append_nil]
    exact HE1.out
   case round =>
    obtain ⟨j, hj, rfl, hsr, hen⟩ := hrel
    clear HSC HE1
    have HSC := hid hsr
    have HE1 := hid hen
    clear hsr hen
    obtain ⟨hs3, cf3, bn3, ha3, ho3, hn3⟩ := HE1.out; have HS3 := hid hs3; have HA3 := hid ha3; have HO3 := hid ho3; have HN3 := hid hn3; clear hs3 ha3 ho3 hn3
    by_cases hlt : j < m
    ·obtain ⟨y, hy⟩ : ∃ y, r[j]? = some y := ⟨_, List.getElem?_eq_getElem (by have := HM.out; omega)⟩
     have HY := hid hy
     have hyk := HRK.out y (List.mem_of_getElem? hy)
     have c0 := (HZC.out _ HS3.out).2 j (by have := HM.out; omega)
     rw [List.getD_eq_getElem?_getD, hy] at c0
     simp only [Option.getD_some] at c0
     clear hy
     go_wp2_with (first
      | (go_at_call 29; refine (HGM.out y hyk _ cf3 bn3 _ HA3.out (HT.out.go HS3.out) HO3.out HSC.out).mono ?_; rintro e w4 ⟨rfl, hen4⟩; have HE4 := hid (mends_join HS3.out HN3.out hen4); have HSC4 := hid (HSC.out.trans hen4.1); clear hen4))
     have HNX : Hid (x.Ends w w4 F bn (wk x.nd x.o z (envL L) ++ (r.take (j + 1)).flatMap fun j => wk x.nd x.o j ((envL L).ext (x.nd k).text k))) := by
      rw [List.take_succ_eq_append_getElem (by have := HM.out; omega), (List.getElem?_eq_some_iff.1 HY.out).2, List.flatMap_append]
      have e2 : [y].flatMap (fun j => wk x.nd x.o j ((envL L).ext (x.nd k).text k)) = wk x.nd x.o y ((envL L).ext (x.nd k).text k) := by simp
      rw [e2, ← List.append_assoc]
      exact HE4.out
     go_wp2
     go_roundw
     case rel => exact ⟨j + 1, by omega, by go_num, HSC4.out, HNX.out⟩
     case measure => simp [intOf]; omega
    ·obtain rfl : j = m := by omega
     have HEND : Hid (x.Ends w wr F bn evs) := by
      rw [E.out]
      have := HE1.out
      rw [List.take_of_length_le (by have := HM.out; omega)] at this
      exact this
     go_wp2
     go_end0
     exact ⟨rfl, HEND.out⟩
  ·have E : Hid (evs = kl.flatMap (fun j => wk x.nd x.o j (envL L))) := by
    have := HEV.out
    unfold nodeE at this
    rw [if_neg h5, if_neg (by omega), if_neg h15, if_neg h23, HKL.out] at this
    exact this
   have hdn := HX.out.down k
   have hl5 := HX.out.kids k
   rw [HKL.out] at hdn hl5
   have HRK := hid hdn
   clear hdn
   have q1 : ((x.nd k).kind == 5) = false := by rw [beq_eq_false_iff_ne]; omega
   have q2 : ((x.nd k).kind == 14) = false := by rw [beq_eq_false_iff_ne]; omega
   have q3 : ((x.nd k).kind == 16) = false := by rw [beq_eq_false_iff_ne]; omega
   have q4 : ((x.nd k).kind == 15) = false := by rw [beq_eq_false_iff_ne]; omega
   have q5 : ((x.nd k).kind == 20) = false := by rw [beq_eq_false_iff_ne]; omega
   have q7 : ((x.nd k).kind == 23) = false := by rw [beq_eq_false_iff_ne]; omega
   obtain ⟨m, hm⟩ : ∃ m, kl.length = m := ⟨_, rfl⟩
   have HM := hid hm
   rw [hm] at hl5 hk1 HK4 ⊢
   clear h5 h14 h15 h16 h23 hm
   go_wp2
   clear n0 n1 n2 n3 n4
   go_loopw [10] (fun i wr => ∃ j : Nat, j ≤ m ∧ i = .int .i64 j ∧ x.Ends w wr F bn ((kl.take j).flatMap fun j => wk x.nd x.o j (envL L))) (fun i _ => m - (intOf i).toNat)
   case atStart => exact ⟨0, Nat.zero_le _, rfl, ⟨HS2.out, cf, bn, HA2.out, HOK.out.congr (fun y => by simp [fls]), fun _ => rfl⟩⟩
   case round =>
    obtain ⟨j, hj, rfl, hen⟩ := hrel
    have HE1 := hid hen
    clear hen
    obtain ⟨hs3, cf3, bn3, ha3, ho3, hn3⟩ := HE1.out; have HS3 := hid hs3; have HA3 := hid ha3; have HO3 := hid ho3; have HN3 := hid hn3; clear hs3 ha3 ho3 hn3
    by_cases hlt : j < m
    ·have hpl := (HK4.out _ HS3.out).2
     rcases hpl with e | ⟨gg, qq, rfl, hc⟩
     ·have := HM.out; rw [e] at this; simp at this; omega
     obtain ⟨y, hy⟩ : ∃ y, kl[j]? = some y := ⟨_, List.getElem?_eq_getElem (by have := HM.out; omega)⟩
     have HY := hid hy
     have hyk := HRK.out y (List.mem_of_getElem? hy)
     have c0 := hc j (by have := HM.out; omega)
     rw [List.getD_eq_getElem?_getD, hy] at c0
     simp only [Option.getD_some] at c0
     clear hy hc
     go_wp2_with (first
      | (go_at_call 29; refine (HGO.out y hyk _ cf3 bn3 _ HA3.out (HT.out.go HS3.out) HO3.out HS3.out).mono ?_; rintro e w4 ⟨rfl, hen4⟩; have HE4 := hid (mends_join HS3.out HN3.out hen4); clear hen4))
     have HNX : Hid (x.Ends w w4 F bn ((kl.take (j + 1)).flatMap fun j => wk x.nd x.o j (envL L))) := by
      rw [List.take_succ_eq_append_getElem (by have := HM.out; omega), (List.getElem?_eq_some_iff.1 HY.out).2, List.flatMap_append]
      have e2 : [y].flatMap (fun j => wk x.nd x.o j (envL L)) = wk x.nd x.o y (envL L) := by simp
      rw [e2]
      exact HE4.out
     go_wp2
     go_roundw
     case rel => exact ⟨j + 1, by omega, by go_num, HNX.out⟩
     case measure => simp [intOf]; omega
    ·obtain rfl : j = m := by omega
     have HEND : Hid (x.Ends w wr F bn evs) := by
      rw [E.out]
      have := HE1.out
      rw [List.take_of_length_le (by have := HM.out; omega)] at this
      exact this
     go_wp2
     go_end0
     exact ⟨rfl, HEND.out⟩
theorem go1_all (x : Mx) (hx : x.Ok) (k : Nat) : k < x.N → GoOk x k := by
 induction k using Nat.strongRecOn with
 | ind k ih => exact fun hk => go1_any x hx k hk fun j hj => ih j hj (by omega)
end Go.Proofs.YtbakebdfmdepnaaGreatDoor
