import Derived.RangeFuncNested
import Derived.RangeFuncBound
import Derived.RangeFuncCalls
import Derived.RangeFuncLeaves
import Derived.Shelf.Abstract
import Derived.Shelf.RegionOpen
import Derived.WalkKit
import Derived.OwnWalkIn
import Derived.TacticsInMore
import Derived.LoopNIn
import Derived.LoopIn
import Derived.Scope
import Derived.WalkMore
import Derived.Test.YtdhcjmlcpnljiaaDoorMITok
import Derived.Test.YtdhcjmlcpnljiaaDoorIIter
/-! Printed by gen_iter.py out of the like of Clay. -/
namespace Go.Proofs.YtdhcjmlcpnljiaaDoor
open Go.RowKit Go.Shelf
attribute [local go_sem] Oper.semAt_some
/-- What the iterator hands on: a token and no fault; or, the last mone, no token and a fault. -/
def mzeroTok : MTok := ⟨0, [], 0, 0, 0⟩
def mitemV (x : MTok × Nat × Nat) : Array Value := #[.agg #[.int .i64 x.1.kind, .string ⟨x.1.text.toArray⟩, .int .i64 x.1.ty, .int .i64 x.1.n, .int .i64 x.1.place], .agg #[.int .i64 x.2.1, .int .i64 x.2.2]]
def mitemsOf (r : List MTok × Option (Nat × Nat)) : List (MTok × Nat × Nat) :=
  match r.2 with
  | none => r.1.map fun t => (t, 0, 0)
  | some x => (r.1.map fun t => (t, 0, 0)) ++ [(mzeroTok, x)]
def mitems (l : List UInt8) : List (MTok × Nat × Nat) := mitemsOf (mscanA (l.length + 1) l (gapN false l))
def mitemsRest (l : List UInt8) (f p : Nat) (pre : List (MTok × Nat × Nat)) : Prop := mitems l = pre ++ mitemsOf (mscanA f l p)
theorem mitemsOf_cons (t : MTok) (r : List MTok × Option (Nat × Nat)) : mitemsOf (t :: r.1, r.2) = (t, 0, 0) :: mitemsOf r := by
  unfold mitemsOf; cases r.2 <;> simp
theorem mitemsRest_go {l : List UInt8} {f p : Nat} {pre : List (MTok × Nat × Nat)} (hr : mitemsRest l (f + 1) p pre) (h : p < l.length) (hc : (mone (l.drop p)).code = 0) :
    mitemsRest l f (p + (mone (l.drop p)).size + gapN false (l.drop (p + (mone (l.drop p)).size))) (pre ++ [(⟨(mone (l.drop p)).kind, (mone (l.drop p)).text, (mone (l.drop p)).ty, (mone (l.drop p)).n, p⟩, 0, 0)]) := by
  unfold mitemsRest at *; rw [hr, mscanA_go f l p h hc, mitemsOf_cons]; simp
theorem mitemsRest_bad {l : List UInt8} {f p : Nat} {pre : List (MTok × Nat × Nat)} (hr : mitemsRest l (f + 1) p pre) (h : p < l.length) (hc : ¬ (mone (l.drop p)).code = 0) :
    mitems l = pre ++ [(mzeroTok, (mone (l.drop p)).code, p)] := by
  unfold mitemsRest at hr; rw [hr, mscanA_bad f l p h hc]; rfl
theorem mitemsRest_end {l : List UInt8} {f p : Nat} {pre : List (MTok × Nat × Nat)} (hr : mitemsRest l f p pre) (h : l.length ≤ p) : mitems l = pre := by
  unfold mitemsRest at hr; rw [hr, mscanA_end f l p h]; simp [mitemsOf]
/-- What the iterator wants of a world that a round has left. -/
structure MSees (n0 Bn r : Nat) (s : ByteArray) (W : World) : Prop where
  src : W.cell? ⟨Bn, 0, none⟩ = some (.string s)
  map : W.heap[r]? = some (.map (mwE 35) 35)
  env : EnvM W
  size : n0 ≤ W.heap.size
theorem mitems_lt {l : List UInt8} {f p : Nat} {pre : List (MTok × Nat × Nat)} {x : MTok × Nat × Nat} (h : mitemsRest l f p (pre ++ [x])) : pre.length < (mitems l).length := by
  unfold mitemsRest at h; rw [h]; simp
theorem myield_form0 {l0 k y p : Nat} {n : Int} {t : List UInt8} {W : World} {x : Result Next} (h : (Instr.yield l0 (mitemV (⟨k, t, y, n, p⟩, 0, 0))).run Tryd.prog W = x) :
    (Instr.yield l0 #[.agg #[.int .i64 k, .string ⟨t.toArray⟩, .int .i64 y, .int .i64 n, .int .i64 p], .agg #[.int .i64 0, .int .i64 0]]).run Tryd.prog W = x := h
theorem myield_formZ {l0 c p : Nat} {W : World} {x : Result Next} (h : (Instr.yield l0 (mitemV (mzeroTok, c, p))).run Tryd.prog W = x) :
    (Instr.yield l0 #[.agg #[.int .i64 0, .string ⟨#[]⟩, .int .i64 0, .int .i64 0, .int .i64 0], .agg #[.int .i64 c, .int .i64 p]]).run Tryd.prog W = x := h
theorem MSees.later {n0 Bn r : Nat} {s : ByteArray} {w w1 w2 : World} (h : MSees n0 Bn r s w) (hb : Below w.heap.size w w1) (h6 : 6 ≤ n0) (hk : Below n0 w1 w2) (hw : KeepsWalks w1 w2) (hc : w2.heap[Bn]? = w1.heap[Bn]?) : MSees n0 Bn r s w2 := by
  have hrl : r < w.heap.size := (Array.getElem?_eq_some_iff.1 h.map).1
  have hs := h.size
  have hz := hb.size
  refine ⟨?_, ?_, ?_, ?_⟩
  · rw [World.cell?_of_block (w := w1) (w' := w2) (a := ⟨Bn, 0, none⟩) hc, hb.cell (p := ⟨Bn, 0, none⟩) (World.block_lt_of_cell? w _ h.src)]; exact h.src
  · exact hw.same r _ ((hb.block r hrl).trans h.map) rfl
  · exact (h.env.below hb).low h6 (by omega) hk
  · exact Nat.le_trans (Nat.le_trans hs hz) hk.size
set_option maxRecDepth 20000 in
set_option maxHeartbeats 1000000 in
theorem miter_in (n l0 Bn n0 : Nat) (s : ByteArray) (hs : s.size ≤ 12000) (hn : 1 ≤ n) (h60 : 6 ≤ n0) (J Jx : List (MTok × Nat × Nat) → World → Prop)
    (hY : ∀ pre x W, J pre W → pre.length < (mitems s.data.toList).length → YieldAt Fence.wide (n - 1) Tryd.prog l0 (mitemV x) W fun e W' =>
      (e = .returned (.bool true) ∧ J (pre ++ [x]) W' ∧ Below n0 W W' ∧ KeepsWalks W W' ∧ W'.heap[Bn]? = W.heap[Bn]?) ∨ (e = .returned (.bool false) ∧ Jx (pre ++ [x]) W'))
    (W : World) (hJ : AbidesFrom W.heap.size J) (hsrc : W.cell? ⟨Bn, 0, none⟩ = some (.string s)) (hE : EnvM W) (hn0 : n0 ≤ W.heap.size) (h0 : J [] W) :
    CallsIn Fence.wide n Tryd.prog 32 #[.func (.yield l0) #[] #[], .pointer (some ⟨Bn, 0, none⟩)] W fun e W' => (∃ v, e = .returned v) ∧
      ((∃ ys, ys = mitems s.data.toList ∧ J ys W') ∨ (∃ pre, pre <+: mitems s.data.toList ∧ Jx pre W')) := by
  have hms : s.size ≤ maxLen := by unfold maxLen; omega
  have HY := hid hY
  have HJ := hid hJ
  clear hY hJ
  refine callsIn_of_wp Tryd.func32 rfl trivial ?_ rfl
  simp only [Tryd.ntmps32, List.size_toArray, List.length_cons, List.length_nil, Nat.reduceAdd, Nat.reduceSub, Array.replicate_succ, Array.replicate_zero, List.push_toArray, List.append_toArray, List.nil_append, List.cons_append]
  refine wpIn_wide.2 (wp_scope_straight ((wpIn_wide (n := n)).1 ?_))
  gi_wp2_with (refine ⟨trivial, ?_⟩; gi_at_call 33; refine (callsIn_wide.2 (millWords_any _)).mono ?_; rintro e w' ⟨rfl, rfl⟩)
  refine wpIn_wide.2 (wp_label ?_)
  have hr0 : (W.alloc (.map (mwE 35) 35)).heap[W.heap.size]? = some (.map (mwE 35) 35) := heap_alloc_new W _
  have hb0 : Below W.heap.size W (W.alloc (.map (mwE 35) 35)) := (Below.refl _ _).alloc (Nat.le_refl _) _
  have SEE0 : Hid (MSees n0 Bn W.heap.size s (W.alloc (.map (mwE 35) 35))) := ⟨(hb0.cell (p := ⟨Bn, 0, none⟩) (World.block_lt_of_cell? W _ hsrc)).trans hsrc, hr0, hE.below hb0, by simp; omega⟩
  have HJ0 : Hid (J [] (W.alloc (.map (mwE 35) 35))) := HJ.out [] W _ none h0 (World.grownBy_alloc W _ none) (fun r e => by cases e)
  clear hr0 hb0 hsrc hE h0
  generalize hr : W.heap.size = r at *
  gi_wp2
  gi_loopw [4] (fun i wr => ∃ (q f : Nat) (pre : List (MTok × Nat × Nat)), i = .int .i64 q ∧ q ≤ s.size ∧ s.size - q < f ∧ MSees n0 Bn r s wr ∧ J pre wr ∧ mitemsRest s.data.toList f (q + gapN false (s.data.toList.drop q)) pre) (fun i _ => s.size - (intOf i).toNat)
  case atStart => exact ⟨0, s.size + 1, [], rfl, Nat.zero_le _, by omega, SEE0.out, HJ0.out, by
    unfold mitemsRest mitems; rw [len_size]; simp⟩
  case round =>
    obtain ⟨q, f, pre, rfl, hq, hf, hsee, hjs, hrest⟩ := hrel
    have SEE := hid hsee
    have HJS := hid hjs
    have HREST := hid hrest
    have hsrc := hsee.src
    clear hsee hjs hrest
    by_cases hlt : q < s.size
    · have hlt' : q < s.data.toList.length := by rw [len_size]; exact hlt
      by_cases c3 : s[q].toNat = 32 ∨ s[q].toNat = 10
      · have HX : Hid (q + gapN false (s.data.toList.drop q) = q + 1 + gapN false (s.data.toList.drop (q + 1))) := by
          have := gf_blank _ q hlt' (by rw [get_eq s q hlt]; exact c3)
          show _ = _; omega
        have NEXT := HREST.out
        rw [HX.out] at NEXT
        have HN := hid NEXT
        clear NEXT
        by_cases c4 : s[q].toNat = 32
        · have c4' : ((s[q].toNat : Int) == 32) = true := by rw [beq_iff_eq]; omega
          clear c3 c4
          gi_wp2
          go_roundw
          case rel => exact ⟨q + 1, f, pre, by go_num, by omega, by omega, SEE.out, HJS.out, HN.out⟩
          case measure => simp [intOf]; omega
        · have c4' : ((s[q].toNat : Int) == 32) = false := by rw [beq_eq_false_iff_ne]; omega
          have c5' : ((s[q].toNat : Int) == 10) = true := by rw [beq_iff_eq]; omega
          clear c3 c4
          gi_wp2
          go_roundw
          case rel => exact ⟨q + 1, f, pre, by go_num, by omega, by omega, SEE.out, HJS.out, HN.out⟩
          case measure => simp [intOf]; omega
      · have c4' : ((s[q].toNat : Int) == 32) = false := by rw [beq_eq_false_iff_ne]; omega
        have c5' : ((s[q].toNat : Int) == 10) = false := by rw [beq_eq_false_iff_ne]; omega
        by_cases c1 : s[q].toNat = 35
        · have c1' : ((s[q].toNat : Int) == 35) = true := by rw [beq_iff_eq]; omega
          have hrl := run_le nn (s.data.toList.drop q)
          rw [List.length_drop, len_size] at hrl
          have hr1 : 1 ≤ run nn (s.data.toList.drop q) := by
            rw [List.drop_eq_getElem_cons hlt']
            have e : s.data.toList[q] = 35 := UInt8.toNat_inj.1 (by rw [get_eq s q hlt]; exact c1)
            rw [e]; exact run_pos _ _ _ rfl
          have HG : Hid (q + gapN false (s.data.toList.drop q) = q + run nn (s.data.toList.drop q) + gapN false (s.data.toList.drop (q + run nn (s.data.toList.drop q)))) := by
            have h1 := gf_note _ q hlt' (by rw [get_eq s q hlt]; exact c1)
            have h2 := gapN_note (s.data.toList.drop q)
            rw [List.drop_drop] at h2
            show _ = _; omega
          have hxs : (s.extract q s.size).size = s.size - q := by simp
          have HIB : Hid (∀ W : World, Calls Tryd.prog 34 #[.string (s.extract q s.size), .int .u8 10] W fun e w' => e = .returned (.int .i64 (if run nn (s.data.toList.drop q) < s.size - q then (run nn (s.data.toList.drop q) : Int) else -1)) ∧ w' = W) := fun W => by
            have h := indexByte10 (s.extract q s.size) W
            rw [extract_end, hxs] at h
            exact h
          generalize run nn (s.data.toList.drop q) = g at *
          clear c1 c3 hxs
          by_cases hg : g < s.size - q
          · have HIF : Hid ((if g < s.size - q then (g : Int) else -1) = (g : Int)) := if_pos hg
            have NEXT := HREST.out
            rw [HG.out] at NEXT
            have HN := hid NEXT
            clear NEXT hg
            gi_wp2_with (first
              | (refine ⟨trivial, ?_⟩; gi_at_call 34; refine (callsIn_wide.2 (HIB.out _)).mono ?_; rintro e w' ⟨rfl, hw⟩; have hw2 := hw.symm; clear hw; subst hw2; rw [HIF.out]))
            go_roundw
            case rel => exact ⟨q + g, f, pre, by go_num, by omega, by omega, SEE.out, HJS.out, HN.out⟩
            case measure => simp [intOf]; omega
          · have HIF : Hid ((if g < s.size - q then (g : Int) else -1) = (-1 : Int)) := if_neg hg
            have HE := hid (mitemsRest_end HREST.out (by rw [HG.out, len_size]; omega))
            clear hg
            gi_wp2_with (first
              | (refine ⟨trivial, ?_⟩; gi_at_call 34; refine (callsIn_wide.2 (HIB.out _)).mono ?_; rintro e w' ⟨rfl, hw⟩; have hw2 := hw.symm; clear hw; subst hw2; rw [HIF.out]))
            rw [Exit.noGoto_normal]
            go_end0
            exact ⟨⟨_, rfl⟩, .inl ⟨pre, HE.out.symm, HJS.out⟩⟩
        · have c1' : ((s[q].toNat : Int) == 35) = false := by rw [beq_eq_false_iff_ne]; omega
          have HX : Hid (q + gapN false (s.data.toList.drop q) = q) := by
            have := gf_stop _ q hlt' (by rw [get_eq s q hlt]; exact c1) (by rw [get_eq s q hlt]; omega) (by rw [get_eq s q hlt]; omega)
            show _ = _; omega
          rw [HX.out] at HREST
          clear c1 c3 HX
          obtain ⟨f, rfl⟩ : ∃ f', f = f' + 1 := ⟨f - 1, by omega⟩
          generalize hO : mone (s.data.toList.drop q) = O
          have HO : Hid (mone (s.extract q s.size).data.toList = O) := by show _ = _; rw [extract_end]; exact hO
          have HOS := hid hO
          clear hO
          by_cases hc : O.code = 0
          · have HV : Hid (moneV O 0 = .tuple #[.agg #[.int .i64 O.kind, .string ⟨O.text.toArray⟩, .int .i64 O.ty, .int .i64 O.n, .int .i64 0], .int .i64 O.size, .int .i64 0]) := by show _ = _; unfold moneV; rw [if_pos hc]; simp
            have hs1 := mone_size (s.data.toList.drop q) (by rw [HOS.out]; exact hc)
            rw [HOS.out, List.length_drop, len_size] at hs1
            obtain ⟨hs1, hs2⟩ := hs1
            have NEXT := hid (mitemsRest_go HREST.out hlt' (by rw [HOS.out]; exact hc))
            rw [HOS.out] at NEXT
            clear hc
            have HLEN := hid (mitems_lt NEXT.out)
            gi_wp2_with (first
              | (refine ⟨trivial, ?_⟩; gi_at_call 35; refine (callsIn_wide.2 (mReadTok_any _ r _ (by simp; omega) (by simp; omega) SEE.out.map SEE.out.env)).mono ?_; rintro e w1 ⟨rfl, hb⟩; rw [HO.out, HV.out]; have HB := hid (hb.alloc hb.size (.cells #[.int .i64 O.kind, .string ⟨O.text.toArray⟩, .int .i64 O.ty, .int .i64 O.n, .int .i64 q] 39)); clear hb; obtain ⟨fn, tmps, assign, body, hy, hR⟩ := HY.out pre (⟨O.kind, O.text, O.ty, O.n, q⟩, 0, 0) _ (HJ.out pre wr _ none HJS.out (below_grown HB.out) (fun r e => by cases e)) HLEN.out; have hy2 := myield_form0 hy; clear hy; have HRR := hid hR; clear hR))
            refine HRR.out.mono ?_
            rintro e W3 (⟨rfl, hJ3, hk3, hw3, hc3⟩ | ⟨rfl, hJx3⟩)
            · have SEE3 := hid (SEE.out.later HB.out h60 hk3 hw3 hc3)
              have HJ3 := hid hJ3
              clear hJ3 hk3 hw3 hc3
              gi_wp2
              go_roundw
              case rel => exact ⟨q + O.size, f, _, by go_num, by omega, by omega, SEE3.out, HJ3.out, NEXT.out⟩
              case measure => simp [intOf]; omega
            · have HJX := hid hJx3
              clear hJx3
              gi_wp2
              rw [Exit.noGoto_ret]
              refine bodyPost_ret (results_none rfl _ _ _) rfl ?_
              exact ⟨⟨_, rfl⟩, .inr ⟨_, ⟨_, (NEXT.out : _ = _).symm⟩, HJX.out⟩⟩
          · have HV : Hid (moneV O 0 = .tuple #[.agg #[.int .i64 0, .string ⟨#[]⟩, .int .i64 0, .int .i64 0, .int .i64 0], .int .i64 0, .int .i64 O.code]) := if_neg hc
            have HIT := hid (mitemsRest_bad HREST.out hlt' (by rw [HOS.out]; exact hc))
            rw [HOS.out] at HIT
            have HLEN : Hid (pre.length < (mitems s.data.toList).length) := by show _ < _; rw [HIT.out]; simp
            have hc' : ((O.code : Int) != 0) = true := by simp; omega
            clear hc
            gi_wp2_with (first
              | (refine ⟨trivial, ?_⟩; gi_at_call 35; refine (callsIn_wide.2 (mReadTok_any _ r _ (by simp; omega) (by simp; omega) SEE.out.map SEE.out.env)).mono ?_; rintro e w1 ⟨rfl, hb⟩; rw [HO.out, HV.out]; have HB := hid (hb.alloc hb.size (.cells #[.int .i64 0, .string ⟨#[]⟩, .int .i64 0, .int .i64 0, .int .i64 0] 39)); clear hb; obtain ⟨fn, tmps, assign, body, hy, hR⟩ := HY.out pre (mzeroTok, O.code, q) _ (HJ.out pre wr _ none HJS.out (below_grown HB.out) (fun r e => by cases e)) HLEN.out; have hy2 := myield_formZ hy; clear hy; have HRR := hid hR; clear hR))
            refine HRR.out.mono ?_
            rintro e W3 (⟨rfl, hJ3, hk3, hw3, hc3⟩ | ⟨rfl, hJx3⟩)
            · have HJ3 := hid hJ3
              clear hJ3 hk3 hw3 hc3
              gi_wp2
              rw [Exit.noGoto_ret]
              refine bodyPost_ret (results_none rfl _ _ _) rfl ?_
              exact ⟨⟨_, rfl⟩, .inl ⟨_, HIT.out.symm, HJ3.out⟩⟩
            · have HJX := hid hJx3
              clear hJx3
              gi_wp2
              rw [Exit.noGoto_ret]
              refine bodyPost_ret (results_none rfl _ _ _) rfl ?_
              exact ⟨⟨_, rfl⟩, .inr ⟨_, by rw [HIT.out]; exact List.prefix_refl _, HJX.out⟩⟩
    · have HE := hid (mitemsRest_end HREST.out (by rw [len_size]; omega))
      gi_wp2
      rw [Exit.noGoto_normal]
      go_end0
      exact ⟨⟨_, rfl⟩, .inl ⟨pre, HE.out.symm, HJS.out⟩⟩
theorem miter_stops (n Bn n0 : Nat) (s : ByteArray) (hs : s.size ≤ 12000) (hn : 1 ≤ n) (h60 : 6 ≤ n0) (w : World) (hsrc : w.cell? ⟨Bn, 0, none⟩ = some (.string s)) (hE : EnvM w) (hn0 : n0 ≤ w.heap.size) :
    SeqStopsK Fence.wide n Tryd.prog 32 #[.pointer (some ⟨Bn, 0, none⟩)] mitemV (Kp n0 Bn) (fun ys => ys = mitems s.data.toList) (fun pre => pre <+: mitems s.data.toList) (mitems s.data.toList).length w := fun l J Jx W hW hJ _ hY h0 =>
  miter_in n l Bn n0 s hs hn h60 J Jx hY W hJ ((hW.cell (p := ⟨Bn, 0, none⟩) (World.block_lt_of_cell? w _ hsrc)).trans hsrc) (hE.below hW) (Nat.le_trans hn0 hW.size) h0
set_option maxHeartbeats 400000 in
theorem millTokens_any (s : ByteArray) (w : World) :
    Calls Tryd.prog 18 #[.string s] w fun e w' => e = .returned (.func (.func 32) #[] #[.pointer (some ⟨w.heap.size, 0, none⟩)]) ∧ w' = w.alloc (.cells #[.string s] 9) := by
  go_enter Tryd.func18, Tryd.ntmps18
  go_wp2
  go_ret
  exact ⟨rfl, rfl⟩
end Go.Proofs.YtdhcjmlcpnljiaaDoor
