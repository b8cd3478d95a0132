import Derived.RangeFuncNested
import Derived.RangeFuncBound
import Derived.RangeFuncCalls
import Derived.RangeFuncLeaves
import Derived.Shelf.Abstract
import Derived.Shelf.RegionOpen
import Derived.WalkKit
import Derived.OwnWalkIn
import Derived.TacticsInMore
import Derived.LoopNIn
import Derived.LoopIn
import Derived.Scope
import Derived.WalkMore
import Derived.Test.YtdhcjmlcpnljiaaDoorITok
namespace Go.Proofs.YtdhcjmlcpnljiaaDoor
open Go.RowKit Go.Shelf
attribute [local go_sem] Oper.semAt_some
/-- What the iterator hands on: a token and no fault; or, the last one, no token and a fault. -/
def zeroTok : Tok := ⟨0, [], 0, 0⟩
def itemV (x : Tok × Nat × Nat) : Array Value := #[.agg #[.int .i64 x.1.kind, .string ⟨x.1.text.toArray⟩, .int .i64 x.1.n, .int .i64 x.1.place], .agg #[.int .i64 x.2.1, .int .i64 x.2.2]]
def itemsOf (r : List Tok × Option (Nat × Nat)) : List (Tok × Nat × Nat) :=
  match r.2 with
  | none => r.1.map fun t => (t, 0, 0)
  | some x => (r.1.map fun t => (t, 0, 0)) ++ [(zeroTok, x)]
def items (l : List UInt8) : List (Tok × Nat × Nat) := itemsOf (scanA (l.length + 1) l (gapN false l))
def itemsRest (l : List UInt8) (f p : Nat) (pre : List (Tok × Nat × Nat)) : Prop := items l = pre ++ itemsOf (scanA f l p)
theorem itemsOf_cons (t : Tok) (r : List Tok × Option (Nat × Nat)) : itemsOf (t :: r.1, r.2) = (t, 0, 0) :: itemsOf r := by
  unfold itemsOf; cases r.2 <;> simp
theorem itemsRest_go {l : List UInt8} {f p : Nat} {pre : List (Tok × Nat × Nat)} (hr : itemsRest l (f + 1) p pre) (h : p < l.length) (hc : (one (l.drop p)).code = 0) :
    itemsRest l f (p + (one (l.drop p)).size + gapN false (l.drop (p + (one (l.drop p)).size))) (pre ++ [(⟨(one (l.drop p)).kind, (one (l.drop p)).text, (one (l.drop p)).n, p⟩, 0, 0)]) := by
  unfold itemsRest at *; rw [hr, scanA_go f l p h hc, itemsOf_cons]; simp
theorem itemsRest_bad {l : List UInt8} {f p : Nat} {pre : List (Tok × Nat × Nat)} (hr : itemsRest l (f + 1) p pre) (h : p < l.length) (hc : ¬ (one (l.drop p)).code = 0) :
    items l = pre ++ [(zeroTok, (one (l.drop p)).code, p)] := by
  unfold itemsRest at hr; rw [hr, scanA_bad f l p h hc]; rfl
theorem itemsRest_end {l : List UInt8} {f p : Nat} {pre : List (Tok × Nat × Nat)} (hr : itemsRest l f p pre) (h : l.length ≤ p) : items l = pre := by
  unfold itemsRest at hr; rw [hr, scanA_end f l p h]; simp [itemsOf]
/-- What the iterator wants of a world that a round has left. -/
structure Sees (n0 Bn r : Nat) (s : ByteArray) (W : World) : Prop where
  src : W.cell? ⟨Bn, 0, none⟩ = some (.string s)
  map : W.heap[r]? = some (.map (wordE 17) 17)
  env : Env W
  size : n0 ≤ W.heap.size
theorem below_grown {w w1 : World} (h : Below w.heap.size w w1) : w.grownBy w1 none := ⟨h.os, h.tape, h.output, h.size, fun k hk _ => h.block k hk⟩
theorem items_lt {l : List UInt8} {f p : Nat} {pre : List (Tok × Nat × Nat)} {x : Tok × Nat × Nat} (h : itemsRest l f p (pre ++ [x])) : pre.length < (items l).length := by
  unfold itemsRest at h; rw [h]; simp
theorem yield_form0 {l0 k n p : Nat} {t : List UInt8} {W : World} {x : Result Next} (h : (Instr.yield l0 (itemV (⟨k, t, n, p⟩, 0, 0))).run Tryd.prog W = x) :
    (Instr.yield l0 #[.agg #[.int .i64 k, .string ⟨t.toArray⟩, .int .i64 n, .int .i64 p], .agg #[.int .i64 0, .int .i64 0]]).run Tryd.prog W = x := h
theorem yield_formZ {l0 c p : Nat} {W : World} {x : Result Next} (h : (Instr.yield l0 (itemV (zeroTok, c, p))).run Tryd.prog W = x) :
    (Instr.yield l0 #[.agg #[.int .i64 0, .string ⟨#[]⟩, .int .i64 0, .int .i64 0], .agg #[.int .i64 c, .int .i64 p]]).run Tryd.prog W = x := h
theorem Env.low {w w' : World} {n0 : Nat} (h : Env w) (h6 : 6 ≤ n0) (hn : n0 ≤ w.heap.size) (hb : Below n0 w w') : Env w' := by
  refine ⟨?_, ?_, ?_, Nat.le_trans (Nat.le_trans h6 hn) hb.size⟩
  · obtain ⟨tp, p, e⟩ := h.bad
    exact ⟨tp, p, (hb.cell (p := ⟨3, 0, none⟩) (show 3 < n0 by omega)).trans e⟩
  · obtain ⟨tp, p, e⟩ := h.big
    exact ⟨tp, p, (hb.cell (p := ⟨4, 0, none⟩) (show 4 < n0 by omega)).trans e⟩
  · obtain ⟨t, fr, e⟩ := h.mark
    exact ⟨t, fr, (hb.block 1 (show 1 < n0 by omega)).trans e⟩
theorem Sees.later {n0 Bn r : Nat} {s : ByteArray} {w w1 w2 : World} (h : Sees n0 Bn r s w) (hb : Below w.heap.size w w1) (h6 : 6 ≤ n0) (hk : Below n0 w1 w2) (hw : KeepsWalks w1 w2) (hc : w2.heap[Bn]? = w1.heap[Bn]?) : Sees n0 Bn r s w2 := by
  have hrl : r < w.heap.size := (Array.getElem?_eq_some_iff.1 h.map).1
  have hs := h.size
  have hz := hb.size
  refine ⟨?_, ?_, ?_, ?_⟩
  · rw [World.cell?_of_block (w := w1) (w' := w2) (a := ⟨Bn, 0, none⟩) hc, hb.cell (p := ⟨Bn, 0, none⟩) (World.block_lt_of_cell? w _ h.src)]; exact h.src
  · exact hw.same r _ ((hb.block r hrl).trans h.map) rfl
  · exact (h.env.below hb).low h6 (by omega) hk
  · exact Nat.le_trans (Nat.le_trans hs hz) hk.size
set_option maxRecDepth 20000 in
set_option maxHeartbeats 1000000 in
theorem iter_in (n l0 Bn n0 : Nat) (s : ByteArray) (hs : s.size ≤ 8000) (hn : 1 ≤ n) (h60 : 6 ≤ n0) (J Jx : List (Tok × Nat × Nat) → World → Prop)
    (hY : ∀ pre x W, J pre W → pre.length < (items s.data.toList).length → YieldAt Fence.wide (n - 1) Tryd.prog l0 (itemV x) W fun e W' =>
      (e = .returned (.bool true) ∧ J (pre ++ [x]) W' ∧ Below n0 W W' ∧ KeepsWalks W W' ∧ W'.heap[Bn]? = W.heap[Bn]?) ∨ (e = .returned (.bool false) ∧ Jx (pre ++ [x]) W'))
    (W : World) (hJ : AbidesFrom W.heap.size J) (hsrc : W.cell? ⟨Bn, 0, none⟩ = some (.string s)) (hE : Env W) (hn0 : n0 ≤ W.heap.size) (h0 : J [] W) :
    CallsIn Fence.wide n Tryd.prog 44 #[.func (.yield l0) #[] #[], .pointer (some ⟨Bn, 0, none⟩)] W fun e W' => (∃ v, e = .returned v) ∧
      ((∃ ys, ys = items s.data.toList ∧ J ys W') ∨ (∃ pre, pre <+: items s.data.toList ∧ Jx pre W')) := by
  have hms : s.size ≤ maxLen := by unfold maxLen; omega
  have HY := hid hY
  have HJ := hid hJ
  clear hY hJ
  refine callsIn_of_wp Tryd.func44 rfl trivial ?_ rfl
  simp only [Tryd.ntmps44, List.size_toArray, List.length_cons, List.length_nil, Nat.reduceAdd, Nat.reduceSub, Array.replicate_succ, Array.replicate_zero, List.push_toArray, List.append_toArray, List.nil_append, List.cons_append]
  refine wpIn_wide.2 (wp_scope_straight ((wpIn_wide (n := n)).1 ?_))
  gi_wp2_with (refine ⟨trivial, ?_⟩; gi_at_call 45; refine (callsIn_wide.2 (clayWords_any _)).mono ?_; rintro e w' ⟨rfl, rfl⟩)
  refine wpIn_wide.2 (wp_label ?_)
  have hr0 : (W.alloc (.map (wordE 17) 17)).heap[W.heap.size]? = some (.map (wordE 17) 17) := heap_alloc_new W _
  have hb0 : Below W.heap.size W (W.alloc (.map (wordE 17) 17)) := (Below.refl _ _).alloc (Nat.le_refl _) _
  have SEE0 : Hid (Sees n0 Bn W.heap.size s (W.alloc (.map (wordE 17) 17))) := ⟨(hb0.cell (p := ⟨Bn, 0, none⟩) (World.block_lt_of_cell? W _ hsrc)).trans hsrc, hr0, hE.below hb0, by simp; omega⟩
  have HJ0 : Hid (J [] (W.alloc (.map (wordE 17) 17))) := HJ.out [] W _ none h0 (World.grownBy_alloc W _ none) (fun r e => by cases e)
  clear hr0 hb0 hsrc hE h0
  generalize hr : W.heap.size = r at *
  gi_wp2
  gi_loopw [4] (fun i wr => ∃ (q f : Nat) (pre : List (Tok × Nat × Nat)), i = .int .i64 q ∧ q ≤ s.size ∧ s.size - q < f ∧ Sees n0 Bn r s wr ∧ J pre wr ∧ itemsRest s.data.toList f (q + gapN false (s.data.toList.drop q)) pre) (fun i _ => s.size - (intOf i).toNat)
  case atStart => exact ⟨0, s.size + 1, [], rfl, Nat.zero_le _, by omega, SEE0.out, HJ0.out, by
    unfold itemsRest items; rw [len_size]; simp⟩
  case round =>
    obtain ⟨q, f, pre, rfl, hq, hf, hsee, hjs, hrest⟩ := hrel
    have SEE := hid hsee
    have HJS := hid hjs
    have HREST := hid hrest
    have hsrc := hsee.src
    clear hsee hjs hrest
    by_cases hlt : q < s.size
    · obtain ⟨f, rfl⟩ : ∃ f', f = f' + 1 := ⟨f - 1, by omega⟩
      generalize hP : q + gapN false (s.data.toList.drop q) = P at *
      have HP := hid hP
      clear hP
      gi_wp2_with (first
        | (refine ⟨trivial, ?_⟩; gi_at_call 46; refine (callsIn_wide.2 (gap_any _ _ (by simp; omega))).mono ?_; rintro e w' ⟨rfl, hw⟩; have hw2 := hw.symm; clear hw; subst hw2; rw [extract_end]))
      gi_loop [4, 5] (fun i g => ∃ m : Nat, i = .int .i64 m ∧ g = .int .i64 (gap1 (s.data.toList.drop m)) ∧ q ≤ m ∧ m < s.size ∧ m + gapN false (s.data.toList.drop m) = P) (fun i _ => s.size - (intOf i).toNat)
      case atStart => exact ⟨q, rfl, rfl, Nat.le_refl _, hlt, HP.out⟩
      case round =>
        obtain ⟨m, rfl, rfl, hqm, hm, hmp⟩ := hrel
        have HMP := hid hmp
        clear hmp
        have hgl := gap1_le (s.data.toList.drop m)
        rw [List.length_drop, len_size] at hgl
        have HG1 := hid (gapN_gap1 (s.data.toList.drop m))
        by_cases hg : gap1 (s.data.toList.drop m) = 0
        · have hPm : P = m := by
            have h1 := HMP.out
            have h2 := HG1.out
            rw [hg, if_pos rfl] at h2; omega
          subst hPm
          have hg' : ((gap1 (s.data.toList.drop P) : Nat) : Int) = 0 := by omega
          have HGZ := hid hg
          rw [hg]
          clear hg HG1 hgl HMP hg'
          have hm' : P < s.data.toList.length := by rw [len_size]; exact hm
          generalize hO : one (s.data.toList.drop P) = O
          have HO : Hid (one (s.extract P s.size).data.toList = O) := by show _ = _; rw [extract_end]; exact hO
          have HOS := hid hO
          clear hO
          by_cases hc : O.code = 0
          · have HV : Hid (oneV O 0 = .tuple #[.agg #[.int .i64 O.kind, .string ⟨O.text.toArray⟩, .int .i64 O.n, .int .i64 0], .int .i64 O.size, .int .i64 0]) := by show _ = _; unfold oneV; rw [if_pos hc]; simp
            have hs1 := one_size (s.data.toList.drop P) (by rw [HOS.out]; exact hc)
            rw [HOS.out, List.length_drop, len_size] at hs1
            obtain ⟨hs1, hs2⟩ := hs1
            have NEXT := hid (itemsRest_go HREST.out hm' (by rw [HOS.out]; exact hc))
            rw [HOS.out] at NEXT
            clear hc
            have HLEN := hid (items_lt NEXT.out)
            gi_wp2_with (first
              | (refine ⟨trivial, ?_⟩; gi_at_call 47; refine (callsIn_wide.2 (readTok_any _ r _ (by simp; omega) (by simp; omega) SEE.out.map SEE.out.env)).mono ?_; rintro e w1 ⟨rfl, hb⟩; rw [HO.out, HV.out]; have HB := hid (hb.alloc hb.size (.cells #[.int .i64 O.kind, .string ⟨O.text.toArray⟩, .int .i64 O.n, .int .i64 P] 49)); clear hb; obtain ⟨fn, tmps, assign, body, hy, hR⟩ := HY.out pre (⟨O.kind, O.text, O.n, P⟩, 0, 0) _ (HJ.out pre wr _ none HJS.out (below_grown HB.out) (fun r e => by cases e)) HLEN.out; have hy2 := yield_form0 hy; clear hy; have HRR := hid hR; clear hR))
            refine HRR.out.mono ?_
            rintro e W3 (⟨rfl, hJ3, hk3, hw3, hc3⟩ | ⟨rfl, hJx3⟩)
            · have SEE3 := hid (SEE.out.later HB.out h60 hk3 hw3 hc3)
              have HJ3 := hid hJ3
              clear hJ3 hk3 hw3 hc3
              gi_wp2
              go_roundw
              case rel => exact ⟨P + O.size, f, _, by go_num, by omega, by omega, SEE3.out, HJ3.out, NEXT.out⟩
              case measure => simp [intOf]; omega
            · have HJX := hid hJx3
              clear hJx3
              gi_wp2
              rw [Exit.noGoto_ret]
              refine bodyPost_ret (results_none rfl _ _ _) rfl ?_
              exact ⟨⟨_, rfl⟩, .inr ⟨_, ⟨_, (NEXT.out : _ = _).symm⟩, HJX.out⟩⟩
          · have HV : Hid (oneV O 0 = .tuple #[.agg #[.int .i64 0, .string ⟨#[]⟩, .int .i64 0, .int .i64 0], .int .i64 0, .int .i64 O.code]) := if_neg hc
            have HIT := hid (itemsRest_bad HREST.out hm' (by rw [HOS.out]; exact hc))
            rw [HOS.out] at HIT
            have HLEN : Hid (pre.length < (items s.data.toList).length) := by show _ < _; rw [HIT.out]; simp
            have hc' : ((O.code : Int) != 0) = true := by simp; omega
            clear hc
            gi_wp2_with (first
              | (refine ⟨trivial, ?_⟩; gi_at_call 47; refine (callsIn_wide.2 (readTok_any _ r _ (by simp; omega) (by simp; omega) SEE.out.map SEE.out.env)).mono ?_; rintro e w1 ⟨rfl, hb⟩; rw [HO.out, HV.out]; have HB := hid (hb.alloc hb.size (.cells #[.int .i64 0, .string ⟨#[]⟩, .int .i64 0, .int .i64 0] 49)); clear hb; obtain ⟨fn, tmps, assign, body, hy, hR⟩ := HY.out pre (zeroTok, O.code, P) _ (HJ.out pre wr _ none HJS.out (below_grown HB.out) (fun r e => by cases e)) HLEN.out; have hy2 := yield_formZ hy; clear hy; have HRR := hid hR; clear hR))
            refine HRR.out.mono ?_
            rintro e W3 (⟨rfl, hJ3, hk3, hw3, hc3⟩ | ⟨rfl, hJx3⟩)
            · have HJ3 := hid hJ3
              clear hJ3 hk3 hw3 hc3
              gi_wp2
              rw [Exit.noGoto_ret]
              refine bodyPost_ret (results_none rfl _ _ _) rfl ?_
              exact ⟨⟨_, rfl⟩, .inl ⟨_, HIT.out.symm, HJ3.out⟩⟩
            · have HJX := hid hJx3
              clear hJx3
              gi_wp2
              rw [Exit.noGoto_ret]
              refine bodyPost_ret (results_none rfl _ _ _) rfl ?_
              exact ⟨⟨_, rfl⟩, .inr ⟨_, by rw [HIT.out]; exact List.prefix_refl _, HJX.out⟩⟩
        · have hg' : 0 < (gap1 (s.data.toList.drop m) : Int) := by omega
          have HNX : Hid (m + gap1 (s.data.toList.drop m) + gapN false (s.data.toList.drop (m + gap1 (s.data.toList.drop m))) = P) := by
            have h1 := HMP.out
            have h2 := HG1.out
            rw [if_neg hg, List.drop_drop] at h2
            show _ = _; omega
          have hgl2 := gap1_le (s.data.toList.drop (m + gap1 (s.data.toList.drop m)))
          rw [List.length_drop, len_size] at hgl2
          clear HG1 hg
          generalize hgv : gap1 (s.data.toList.drop m) = g at *
          have HGV := hid hgv
          clear hgv
          by_cases he : m + g = s.size
          · have he' : ((m : Int) + (g : Int) == s.size) = true := by rw [beq_iff_eq]; omega
            have HJE : Hid (J (items s.data.toList) wr) := by
              have hPe : s.data.toList.length ≤ P := by have := HNX.out; rw [len_size]; omega
              rw [itemsRest_end HREST.out hPe]; exact HJS.out
            gi_wp2
            go_end0
            exact ⟨⟨_, rfl⟩, .inl HJE.out⟩
          · have he' : ((m : Int) + (g : Int) == s.size) = false := by rw [beq_eq_false_iff_ne]; omega
            gi_wp2_with (first
              | (refine ⟨trivial, ?_⟩; gi_at_call 46; refine (callsIn_wide.2 (gap_any _ _ (by simp; omega))).mono ?_; rintro e w' ⟨rfl, hw⟩; have hw2 := hw.symm; clear hw; subst hw2; rw [extract_end]))
            go_round
            case rel => exact ⟨m + g, by go_num, rfl, by omega, by omega, HNX.out⟩
            case measure => simp [intOf]; omega
    · have HE := hid (itemsRest_end HREST.out (by rw [len_size]; omega))
      gi_wp2
      rw [Exit.noGoto_normal]
      go_end0
      exact ⟨⟨_, rfl⟩, .inl ⟨pre, HE.out.symm, HJS.out⟩⟩
/-- What a round that goes on keeps. -/
def Kp (n0 Bn : Nat) (A B : World) : Prop := Below n0 A B ∧ KeepsWalks A B ∧ B.heap[Bn]? = A.heap[Bn]?
theorem Kp.trans {n0 Bn : Nat} {A B C : World} (h : Kp n0 Bn A B) (k : Kp n0 Bn B C) : Kp n0 Bn A C := ⟨h.1.trans k.1, h.2.1.trans k.2.1, k.2.2.trans h.2.2⟩
theorem Kp.book {n0 Bn : Nat} {w : World} (hn : n0 ≤ w.heap.size) (hB : Bn < w.heap.size) (W : World) (l : Nat) (o o' : Obj) (hl : w.heap.size ≤ l) (h : W.heap[l]? = some o) (h1 : o.isCells = false) (h2 : o.isWalk = false) : Kp n0 Bn W (W.putObj l o') :=
  ⟨belowK_b hn W l o o' hl h h1 h2, walksK_b (w := w) W l o o' hl h h1 h2, World.putObj_heap_other (fun e => by omega)⟩
theorem iter_stops (n Bn n0 : Nat) (s : ByteArray) (hs : s.size ≤ 8000) (hn : 1 ≤ n) (h60 : 6 ≤ n0) (w : World) (hsrc : w.cell? ⟨Bn, 0, none⟩ = some (.string s)) (hE : Env w) (hn0 : n0 ≤ w.heap.size) :
    SeqStopsK Fence.wide n Tryd.prog 44 #[.pointer (some ⟨Bn, 0, none⟩)] itemV (Kp n0 Bn) (fun ys => ys = items s.data.toList) (fun pre => pre <+: items s.data.toList) (items s.data.toList).length w := fun l J Jx W hW hJ _ hY h0 =>
  iter_in n l Bn n0 s hs hn h60 J Jx hY W hJ ((hW.cell (p := ⟨Bn, 0, none⟩) (World.block_lt_of_cell? w _ hsrc)).trans hsrc) (hE.below hW) (Nat.le_trans hn0 hW.size) h0
set_option maxHeartbeats 400000 in
theorem clayTokens_any (s : ByteArray) (w : World) :
    Calls Tryd.prog 23 #[.string s] w fun e w' => e = .returned (.func (.func 44) #[] #[.pointer (some ⟨w.heap.size, 0, none⟩)]) ∧ w' = w.alloc (.cells #[.string s] 9) := by
  go_enter Tryd.func23, Tryd.ntmps23
  go_wp2
  go_ret
  exact ⟨rfl, rfl⟩
end Go.Proofs.YtdhcjmlcpnljiaaDoor
