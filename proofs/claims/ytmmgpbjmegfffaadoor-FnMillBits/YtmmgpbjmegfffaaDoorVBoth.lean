import Derived.Test.YtmmgpbjmegfffaaDoorVEq
import Derived.Test.YtmmgpbjmegfffaaDoorVBinS
import Derived.Test.YtmmgpbjmegfffaaDoorVBinI
/-! What both answer of two values. -/
namespace Go.Proofs.YtmmgpbjmegfffaaDoor.V
open Go.RowKit Go.Shelf
set_option maxRecDepth 20000
/-- The three errors that are told. -/
structure Errs (W : World) (p q l : Addr) : Prop where
  ty : ErrAt W 0 p wType
  dv : ErrAt W 2 q wDiv
  lg : ErrAt W 1 l wLong
theorem Errs.next {w w' : World} {p q l : Addr} (h : Errs w p q l) (hb : Below w.heap.size w w') : Errs w' p q l := ⟨h.ty.next hb, h.dv.next hb, h.lg.next hb⟩
/-- What both answer. -/
def Both (op t n : Int) (s : ByteArray) (t2 n2 : Int) (x : ByteArray) (p q l : Addr) (y z : Int) (st wd : ByteArray) : Prop :=
  (∀ W, Calls Tryd.prog 6 #[.int .i64 op, val t n s, val t2 n2 x] W fun e w' => e = .returned (ans y z st wd) ∧ Below W.heap.size W w') ∧
  (∀ W, Errs W p q l → Calls Tryd.prog 8 #[.int .i64 op, val t n s, val t2 n2 x] W fun e w' => e = .returned (ans y z st wd) ∧ Below W.heap.size W w')
theorem valid_typ {t n : Int} {s : ByteArray} (h : validB t n s = true) : 1 ≤ t ∧ t ≤ 10 := by
  by_cases h1 : t = 1
  · omega
  · by_cases h2 : t = 2
    · omega
    · by_cases h3 : 3 ≤ t ∧ t ≤ 10
      · omega
      · rw [valid_out h1 h2 h3] at h; cases h
theorem valid_text {n : Int} {s : ByteArray} (h : validB 2 n s = true) : n = 0 ∧ s.size ≤ 3000 := by
  simp [validB] at h
  exact ⟨h.1, by omega⟩
theorem valid_into {t n : Int} {s : ByteArray} (h3 : 3 ≤ t) (h4 : t ≤ 10) (h : validB t n s = true) : n = into t n := by
  rw [valid_int h3 h4] at h
  simp at h
  exact h.2
section
variable {op t n t2 n2 : Int} {s x : ByteArray} {p q l : Addr}
theorem both_type (hS : ∀ W, Calls Tryd.prog 6 #[.int .i64 op, val t n s, val t2 n2 x] W fun e w' => e = .returned (ans 0 0 wNone wType) ∧ Below W.heap.size W w')
    (hI : ∀ W, ErrAt W 0 p wType → Calls Tryd.prog 21 #[.int .i64 op, val t n s, val t2 n2 x] W fun e w' => e = .returned (.tuple #[val 0 0 wNone, errV p]) ∧ Below W.heap.size W w') : Both op t n s t2 n2 x p q l 0 0 wNone wType :=
  ⟨hS, fun W hE => top_err op t n s t2 n2 x 0 0 wNone _ p wType W hE.ty (fun V hV => hI V (hE.ty.next hV))⟩
theorem both_ok {y z : Int} {st : ByteArray} (hS : ∀ W, Calls Tryd.prog 6 #[.int .i64 op, val t n s, val t2 n2 x] W fun e w' => e = .returned (ans y z st wNone) ∧ Below W.heap.size W w')
    (hI : ∀ W, Calls Tryd.prog 21 #[.int .i64 op, val t n s, val t2 n2 x] W fun e w' => e = .returned (.tuple #[val y z st, .nilIface]) ∧ Below W.heap.size W w') : Both op t n s t2 n2 x p q l y z st wNone :=
  ⟨hS, fun W _ => top_ok op t n s t2 n2 x y z st W (fun V _ => hI V)⟩
end
theorem bin_type {op t t2 : Int} (h1 : 1 ≤ op) (h18 : op ≤ 18) (t1 : 1 ≤ t) (t10 : t ≤ 10) (h : binT op t t2 ≠ 0) : t = t2 ∧ ((t = 1 ∧ op ≤ 4) ∨ (t = 2 ∧ 3 ≤ op ∧ op ≤ 9) ∨ (3 ≤ t ∧ 3 ≤ op)) := by
  by_cases he : t = t2
  · subst he
    refine ⟨rfl, ?_⟩
    rcases typ3 t1 t10 with rfl | rfl | ⟨h3, h4⟩
    · obtain rfl | rfl | rfl | rfl | rfl | rfl | rfl | rfl | rfl | rfl | rfl | rfl | rfl | rfl | rfl | rfl | rfl | rfl := op18 h1 h18
      all_goals first | exact absurd rfl h | omega
    · obtain rfl | rfl | rfl | rfl | rfl | rfl | rfl | rfl | rfl | rfl | rfl | rfl | rfl | rfl | rfl | rfl | rfl | rfl := op18 h1 h18
      all_goals first | exact absurd rfl h | omega
    · have n1 : ¬ t = 1 := by omega
      by_cases ho : op = 1 ∨ op = 2
      · exact absurd (by unfold binT; simp [ho, n1]) h
      · omega
  · exact absurd (binT_other he) h
theorem kt_zero (t : Int) : (kT t).wrap 0 = 0 := by
  unfold kT
  repeat' split
  all_goals rfl
theorem boolV_eq (b : Bool) : boolV b = val 1 (if b then 1 else 0) wNone := rfl
/-- Integers. -/
theorem both_int (op t n : Int) (s : ByteArray) (n2 : Int) (x : ByteArray) (h3 : 3 ≤ t) (h4 : t ≤ 10) (o3 : 3 ≤ op) (o18 : op ≤ 18) (hv : validB t n s = true) (hx : validB t n2 x = true)
    (hn1 : -9223372036854775808 ≤ n) (hn2 : n ≤ 9223372036854775807) (hm1 : -9223372036854775808 ≤ n2) (hm2 : n2 ≤ 9223372036854775807) (p q l : Addr) :
    (op ≤ 8 ∧ Both op t n s t n2 x p q l 1 (if cmpB op ((kT t).wrap n) ((kT t).wrap n2) then 1 else 0) wNone wNone) ∨
    ((op = 14 ∨ op = 15) ∧ n2 = 0 ∧ Both op t n s t n2 x p q l 0 0 wNone wDiv) ∨
    (9 ≤ op ∧ (op = 14 ∨ op = 15 → n2 ≠ 0) ∧ Both op t n s t n2 x p q l t (cntT t op n n2) wNone wNone) := by
  have ha := valid_into h3 h4 hv
  have hb := valid_into h3 h4 hx
  by_cases o8 : op ≤ 8
  · left
    refine ⟨o8, ?_⟩
    have hu : binT op t t = 1 := by rw [binT_int h3 o3 o18, if_pos o8]
    have hE : decide (n = n2) = decide ((kT t).wrap n = (kT t).wrap n2) := decide_eq_decide.2 (kt_eq ha hb)
    have key : ∀ L : Bool, (∀ W, Calls Tryd.prog 47 #[.int .i64 t, .int .i64 n, .int .i64 n2] W fun e w' => e = .returned (.bool L) ∧ w' = W) → L = decide ((kT t).wrap n < (kT t).wrap n2) → Both op t n s t n2 x p q l 1 (if cmpB op ((kT t).wrap n) ((kT t).wrap n2) then 1 else 0) wNone wNone := fun L hL eL => by
      have e : ordB op L (decide (n = n2)) = cmpB op ((kT t).wrap n) ((kT t).wrap n2) := by rw [eL, hE, ord_cmp]
      rw [← e]
      refine both_ok (fun W => specBin_c op t n s n2 x L _ hv hx o3 o8 (by omega) h4 hu (fun V => l13Order_any op t n t n2 s x L _ o3 o8 (fun U => l13Compare_n t n n2 s x L (by omega) hL U) V) hn1 hn2 hm1 hm2 W) (fun W => ?_)
      refine binOf_int W op t n s n2 x hv hx o3 o18 h3 h4 1 _ wNone .nilIface (fun V _ => ?_) hn1 hn2 hm1 hm2
      have := intsC t op n n2 h3 h4 o3 o8 hn1 hn2 hm1 hm2 V
      rw [e]; exact this
    by_cases h7 : 7 ≤ t
    · exact key _ (fun W => l13Less_s t n n2 h7 h4 W) (by rw [kt_signed h7 h4 ha, kt_signed h7 h4 hb])
    · exact key _ (fun W => l13Less_u t n n2 (by omega) W) (by rw [kt_unsigned h3 (by omega) ha, kt_unsigned h3 (by omega) hb])
  · right
    have h0 : (kT t).wrap n2 = 0 ↔ n2 = 0 := by
      refine ⟨fun e => by rw [hb]; show IntKind.i64.wrap ((kT t).wrap n2) = 0; rw [e]; rfl, fun e => by rw [e]; exact kt_zero t⟩

    by_cases hz : (op = 14 ∨ op = 15) ∧ n2 = 0
    · left
      obtain ⟨ho, rfl⟩ := hz
      refine ⟨ho, rfl, ?_, fun W hE => ?_⟩
      · obtain rfl | rfl := ho
        · exact fun W => specBin_14z t n s x hv hx h3 h4 hn1 hn2 W
        · exact fun W => specBin_15z t n s x hv hx h3 h4 hn1 hn2 W
      · refine top_err op t n s t 0 x t 0 wNone _ q wDiv W hE.dv (fun V hV => ?_)
        refine binOf_int V op t n s 0 x hv hx o3 o18 h3 h4 t 0 wNone _ (fun U hU => ?_) hn1 hn2 (by decide) (by decide)
        exact intsZ t op n 0 h3 h4 ho hn1 hn2 (by decide) (by decide) (h0.2 rfl) q wDiv U ((hE.dv.next hV).next hU)
    · right
      have hz' : op = 14 ∨ op = 15 → n2 ≠ 0 := fun h e => hz ⟨h, e⟩
      refine ⟨by omega, hz', ?_⟩
      have hI : ∀ W, Calls Tryd.prog 21 #[.int .i64 op, val t n s, val t n2 x] W fun e w' => e = .returned (.tuple #[val t (cntT t op n n2) wNone, .nilIface]) ∧ Below W.heap.size W w' := fun W => by
        refine binOf_int W op t n s n2 x hv hx o3 o18 h3 h4 t _ wNone .nilIface (fun V _ => ?_) hn1 hn2 hm1 hm2
        have := intsN t op n n2 h3 h4 (by omega) o18 hn1 hn2 hm1 hm2 (fun h e => hz' h (h0.1 e)) V
        rwa [impl_cnt t op n n2 (by omega) o18] at this
      obtain rfl | rfl | rfl | rfl | rfl | rfl | rfl | rfl | rfl | rfl : op = 9 ∨ op = 10 ∨ op = 11 ∨ op = 12 ∨ op = 13 ∨ op = 14 ∨ op = 15 ∨ op = 16 ∨ op = 17 ∨ op = 18 := by omega
      · exact both_ok (fun W => specBin_9 t n s n2 x hv hx h3 h4 hn1 hn2 hm1 hm2 W) hI
      · exact both_ok (fun W => specBin_10 t n s n2 x hv hx h3 h4 hn1 hn2 hm1 hm2 W) hI
      · exact both_ok (fun W => specBin_11 t n s n2 x hv hx h3 h4 hn1 hn2 hm1 hm2 W) hI
      · exact both_ok (fun W => specBin_12 t n s n2 x hv hx h3 h4 hn1 hn2 hm1 hm2 W) hI
      · exact both_ok (fun W => specBin_13 t n s n2 x hv hx h3 h4 hn1 hn2 hm1 hm2 W) hI
      · exact both_ok (fun W => specBin_14 t n s n2 x hv hx h3 h4 ha hb (hz' (by decide)) hn1 hn2 hm1 hm2 W) hI
      · exact both_ok (fun W => specBin_15 t n s n2 x hv hx h3 h4 ha hb (hz' (by decide)) hn1 hn2 hm1 hm2 W) hI
      · exact both_ok (fun W => specBin_16 t n s n2 x hv hx h3 h4 hn1 hn2 hm1 hm2 W) hI
      · exact both_ok (fun W => specBin_17 t n s n2 x hv hx h3 h4 ha hb hn1 hn2 hm1 hm2 W) hI
      · exact both_ok (fun W => specBin_18 t n s n2 x hv hx h3 h4 ha hb hn1 hn2 hm1 hm2 W) hI
theorem both_any (op t n : Int) (s : ByteArray) (t2 n2 : Int) (x : ByteArray)
    (hn1 : -9223372036854775808 ≤ n) (hn2 : n ≤ 9223372036854775807) (hm1 : -9223372036854775808 ≤ n2) (hm2 : n2 ≤ 9223372036854775807) (p q l : Addr) :
    ∃ y z st wd, Both op t n s t2 n2 x p q l y z st wd := by
  cases hv : validB t n s
  · refine ⟨_, _, _, _, both_type (fun W => specBin_b1 op t n s t2 n2 x hv hn1 hn2 W) (fun W hE => ?_)⟩
    by_cases h1 : op < 1
    · exact binOf_b1 op t n s t2 n2 x h1 p wType W hE
    · by_cases h2 : 18 < op
      · exact binOf_b2 op t n s t2 n2 x h2 p wType W hE
      · exact binOf_b3 op t n s t2 n2 x hv (by omega) (by omega) hn1 hn2 p wType W hE
  · cases hx : validB t2 n2 x
    · refine ⟨_, _, _, _, both_type (fun W => specBin_b2 op t n s t2 n2 x hv hx hn1 hn2 hm1 hm2 W) (fun W hE => ?_)⟩
      by_cases h1 : op < 1
      · exact binOf_b1 op t n s t2 n2 x h1 p wType W hE
      · by_cases h2 : 18 < op
        · exact binOf_b2 op t n s t2 n2 x h2 p wType W hE
        · exact binOf_b4 op t n s t2 n2 x hv hx (by omega) (by omega) hn1 hn2 hm1 hm2 p wType W hE
    · by_cases h1 : op < 1
      · exact ⟨_, _, _, _, both_type (fun W => specBin_b3 op t n s t2 n2 x hv hx h1 hn1 hn2 hm1 hm2 W) (fun W hE => binOf_b1 op t n s t2 n2 x h1 p wType W hE)⟩
      · by_cases h2 : 18 < op
        · exact ⟨_, _, _, _, both_type (fun W => specBin_b4 op t n s t2 n2 x hv hx h2 hn1 hn2 hm1 hm2 W) (fun W hE => binOf_b2 op t n s t2 n2 x h2 p wType W hE)⟩
        · have ht := valid_typ hv
          by_cases hu : binT op t t2 = 0
          · exact ⟨_, _, _, _, both_type (fun W => specBin_b5 op t n s t2 n2 x hv hx (by omega) (by omega) ht.1 ht.2 hu hn1 hn2 hm1 hm2 W) (fun W hE => binOf_b5 op t n s t2 n2 x hv hx (by omega) (by omega) ht.1 ht.2 hu hn1 hn2 hm1 hm2 p wType W hE)⟩
          · obtain ⟨rfl, ⟨rfl, o4⟩ | ⟨rfl, o3, o9⟩ | ⟨h3, o3⟩⟩ := bin_type (by omega) (by omega) ht.1 ht.2 hu
            · have hI := fun W => binOf_bool op n s n2 x hv hx (by omega) o4 hn1 hn2 hm1 hm2 W
              by_cases o2 : op ≤ 2
              · obtain rfl | rfl : op = 1 ∨ op = 2 := by omega
                · rcases valid_bool hv with rfl | rfl <;> rcases valid_bool hx with rfl | rfl
                  · exact ⟨_, _, _, _, both_ok (fun W => specBin_1_00 s x hv hx W) hI⟩
                  · exact ⟨_, _, _, _, both_ok (fun W => specBin_1_01 s x hv hx W) hI⟩
                  · exact ⟨_, _, _, _, both_ok (fun W => specBin_1_10 s x hv hx W) hI⟩
                  · exact ⟨_, _, _, _, both_ok (fun W => specBin_1_11 s x hv hx W) hI⟩
                · rcases valid_bool hv with rfl | rfl <;> rcases valid_bool hx with rfl | rfl
                  · exact ⟨_, _, _, _, both_ok (fun W => specBin_2_00 s x hv hx W) hI⟩
                  · exact ⟨_, _, _, _, both_ok (fun W => specBin_2_01 s x hv hx W) hI⟩
                  · exact ⟨_, _, _, _, both_ok (fun W => specBin_2_10 s x hv hx W) hI⟩
                  · exact ⟨_, _, _, _, both_ok (fun W => specBin_2_11 s x hv hx W) hI⟩
              · have e : ordB op (decide (IntKind.u64.wrap n < IntKind.u64.wrap n2)) (decide (n = n2)) = boolsB op n n2 := by
                  obtain rfl | rfl : op = 3 ∨ op = 4 := by omega
                  · rfl
                  · rfl
                refine ⟨_, _, _, _, both_ok (fun W => specBin_c op 1 n s n2 x _ _ hv hx (by omega) (by omega) (by decide) (by decide) (binT_bool (by omega) o4) (fun V => l13Order_any op 1 n 1 n2 s x _ _ (by omega) (by omega) (fun U => l13Compare_n 1 n n2 s x _ (by decide) (fun Z => l13Less_u 1 n n2 (by decide) Z) U) V) hn1 hn2 hm1 hm2 W) ?_⟩
                rw [e]
                exact hI
            · obtain ⟨rfl, hs⟩ := valid_text hv
              obtain ⟨rfl, hy⟩ := valid_text hx
              by_cases o8 : op ≤ 8
              · have hu1 : binT op 2 2 = 1 := by
                  obtain rfl | rfl | rfl | rfl | rfl | rfl : op = 3 ∨ op = 4 ∨ op = 5 ∨ op = 6 ∨ op = 7 ∨ op = 8 := by omega
                  all_goals rfl
                refine ⟨_, _, _, _, both_ok (fun W => specBin_c op 2 0 s 0 x _ _ hv hx o3 o8 (by decide) (by decide) hu1 (fun V => l13Order_any op 2 0 2 0 s x _ _ o3 o8 (fun U => l13Compare_t 0 0 s x U) V) hn1 hn2 hm1 hm2 W) (fun W => ?_)⟩
                exact binOf_text W op s x hv hx o3 o9 1 _ wNone .nilIface (fun V _ => texts_cmp op s x o3 o8 V)
              · obtain rfl : op = 9 := by omega
                by_cases hl : 3000 < s.size + x.size
                · refine ⟨_, _, _, _, fun W => specBin_long s x hv hx hl hs hy W, fun W hE => ?_⟩
                  refine top_err 9 2 0 s 2 0 x 0 0 wNone _ l wLong W hE.lg (fun V hV => ?_)
                  exact binOf_text V 9 s x hv hx (by decide) (by decide) 0 0 wNone _ (fun U hU => texts_long s x hs hy hl l wLong U ((hE.lg.next hV).next hU))
                · refine ⟨_, _, _, _, both_ok (fun W => specBin_join s x hv hx (by omega) W) (fun W => ?_)⟩
                  exact binOf_text W 9 s x hv hx (by decide) (by decide) 2 0 (s ++ x) .nilIface (fun V _ => texts_join s x (by omega) V)
            · rcases both_int op t n s n2 x h3 ht.2 o3 (by omega) hv hx hn1 hn2 hm1 hm2 p q l with ⟨_, h⟩ | ⟨_, _, h⟩ | ⟨_, _, h⟩
              · exact ⟨_, _, _, _, h⟩
              · exact ⟨_, _, _, _, h⟩
              · exact ⟨_, _, _, _, h⟩
end Go.Proofs.YtmmgpbjmegfffaaDoor.V
