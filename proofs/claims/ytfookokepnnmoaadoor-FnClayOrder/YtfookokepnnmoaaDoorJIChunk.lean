import Derived.RangeFuncNested
import Derived.RangeFuncBound
import Derived.RangeFuncCalls
import Derived.RangeFuncLeaves
import Derived.Shelf.Abstract
import Derived.Shelf.RegionOpen
import Derived.OwnWalkIn
import Derived.TacticsInMore
import Derived.LoopNIn
import Derived.LoopIn
import Derived.Scope
import Derived.WalkMore
import Derived.Test.YtfookokepnnmoaaDoorJQuiet
namespace Go.Proofs.YtfookokepnnmoaaDoor
open Go.RowKit Go.Shelf
attribute [local go_sem] Oper.semAt_some
/-- What slices.Chunk by twos hands on. -/
def chV (g o m : Nat) (x : Nat) : Array Value := #[.slice (some ⟨g, o + 2 * min x (m - 1), none⟩) 2 2]
/-- What a round that goes on keeps. -/
def Kc (n0 Bs : Nat) (A B : World) : Prop := Below n0 A B ∧ B.heap[Bs]? = A.heap[Bs]? ∧ B.heap[Bs + 1]? = A.heap[Bs + 1]?
theorem Kc.trans {n0 Bs : Nat} {A B C : World} (h : Kc n0 Bs A B) (k : Kc n0 Bs B C) : Kc n0 Bs A C := ⟨h.1.trans k.1, k.2.1.trans h.2.1, k.2.2.trans h.2.2⟩
theorem Kc.book {n0 Bs : Nat} {w : World} (hn : n0 ≤ w.heap.size) (hB : Bs + 1 < w.heap.size) (W : World) (l : Nat) (o o' : Obj) (hl : w.heap.size ≤ l) (h : W.heap[l]? = some o) (h1 : o.isCells = false) (h2 : o.isWalk = false) : Kc n0 Bs W (W.putObj l o') :=
  ⟨belowK_b hn W l o o' hl h h1 h2, World.putObj_heap_other (fun e => by omega), World.putObj_heap_other (fun e => by omega)⟩
/-- The boxes of the iterator. -/
structure Bxs (Bs : Nat) (v : Value) (W : World) : Prop where
  s : W.cell? ⟨Bs, 0, none⟩ = some v
  n : W.cell? ⟨Bs + 1, 0, none⟩ = some (.int .i64 2)
theorem below_grown {w w1 : World} (h : Below w.heap.size w w1) : w.grownBy w1 none := ⟨h.os, h.tape, h.output, h.size, fun k hk _ => h.block k hk⟩
set_option maxRecDepth 20000 in
set_option maxHeartbeats 1000000 in
theorem chunk_in (n l0 Bs n0 g o m cap : Nat) (ad : Option Addr) (had : 0 < m → ad = some ⟨g, o, none⟩) (hm : m ≤ 1000) (hcap : 2 * m ≤ cap) (hc2 : cap ≤ 9223372036854775807) (hn : 1 ≤ n) (J Jx : List Nat → World → Prop)
    (hY : ∀ pre x W, J pre W → pre.length < m → YieldAt Fence.wide (n - 1) Tryd.prog l0 (chV g o m x) W fun e W' =>
      (e = .returned (.bool true) ∧ J (pre ++ [x]) W' ∧ Kc n0 Bs W W') ∨ (e = .returned (.bool false) ∧ Jx (pre ++ [x]) W'))
    (W : World) (hJ : AbidesFrom W.heap.size J) (hsrc : Bxs Bs (.slice ad (2 * m) cap) W) (h0 : J [] W) :
    CallsIn Fence.wide n Tryd.prog 64 #[.func (.yield l0) #[] #[], .pointer (some ⟨Bs, 0, none⟩), .pointer (some ⟨Bs + 1, 0, none⟩)] W fun e W' => (∃ v, e = .returned v) ∧
      ((∃ ys, ys = List.range m ∧ J ys W') ∨ (∃ pre, pre <+: List.range m ∧ Jx pre W')) := by
  have HY := hid hY
  have HJ := hid hJ
  clear hY hJ
  refine callsIn_of_wp Tryd.func64 rfl trivial ?_ rfl
  simp only [Tryd.ntmps64, List.size_toArray, List.length_cons, List.length_nil, Nat.reduceAdd, Nat.reduceSub, Array.replicate_succ, Array.replicate_zero, List.push_toArray, List.append_toArray, List.nil_append, List.cons_append]
  have HSRC := hid hsrc
  have HJ0 := hid h0
  clear hsrc h0
  have hmix : Tryd.prog.follows .mixedOrders = true := by kernel_rfl
  gi_wp2
  gi_loopw [4] (fun i wr => ∃ q I : Nat, 2 * q = I ∧ i = .int .i64 I ∧ q ≤ m ∧ Bxs Bs (.slice ad (2 * m) cap) wr ∧ J (List.range q) wr) (fun i _ => 2 * m - (intOf i).toNat)
  case atStart => exact ⟨0, 0, rfl, rfl, Nat.zero_le _, HSRC.out, HJ0.out⟩
  case round =>
    obtain ⟨q, I, hI, rfl, hq, hbx, hjs⟩ := hrel
    have HI := hid hI
    have HBX := hid hbx
    have HJS := hid hjs
    have b0 := hbx.s
    have b1 := hbx.n
    clear hbx hjs
    by_cases hlt : q < m
    · obtain rfl := had (by omega)
      have hI2 : I + 2 ≤ 2 * m := by omega
      obtain ⟨M, hM⟩ : ∃ M, 2 * m = M := ⟨_, rfl⟩
      have HMM := hid hM
      rw [hM] at b0 hI2 hcap
      have hMc : ¬ cap = I := by omega
      have hIM : I ≤ M := by omega
      have hIlt : I < M := by omega
      clear hI hM
      have hmin : ¬ ((M - I : Nat) : Int) < 2 := by omega
      have HJ1 := HJ.out (List.range q) wr wr.drew none HJS.out (below_grown (Below.refl _ wr).drew) (fun r e => by cases e)
      obtain ⟨fn, tmps, assign, body, hy, hR⟩ := HY.out (List.range q) q wr.drew HJ1 (by simp; exact hlt)
      have hy2 : (Instr.yield l0 #[.slice (some ⟨g, o + I, none⟩) 2 2]).run Tryd.prog wr.drew = .ok (.round l0 fn tmps assign body) wr.drew := by
        have h := hy
        unfold chV at h
        rw [show min q (m - 1) = q by omega, HI.out] at h
        exact h
      have HRR := hid hR
      have HB1 : Hid (Bxs Bs (.slice (some ⟨g, o, none⟩) (2 * m) cap) wr.drew) := ⟨HBX.out.s, HBX.out.n⟩
      have HRG : Hid (List.range (q + 1) = List.range q ++ [q]) := List.range_succ
      clear hy hR HJ1
      gi_wp2
      gi_region_with_o (fail)
      all_goals
        gi_wp2
        refine HRR.out.mono ?_
        rintro e W3 (⟨rfl, hJ3, hk3⟩ | ⟨rfl, hJx3⟩)
        · have HB3 : Hid (Bxs Bs (.slice (some ⟨g, o, none⟩) (2 * m) cap) W3) := ⟨by rw [World.cell?_of_block (w := wr.drew) (w' := W3) (a := ⟨Bs, 0, none⟩) hk3.2.1]; exact HB1.out.s, by rw [World.cell?_of_block (w := wr.drew) (w' := W3) (a := ⟨Bs + 1, 0, none⟩) hk3.2.2]; exact HB1.out.n⟩
          have HJ3 : Hid (J (List.range (q + 1)) W3) := by
            show J (List.range (q + 1)) W3
            rw [HRG.out]; exact hJ3
          have n3 := HB3.out.n
          clear hJ3 hk3
          gi_wp2
          go_roundw
          case rel => exact ⟨q + 1, I + 2, by have := HI.out; omega, by go_num, by omega, HB3.out, HJ3.out⟩
          case measure => have := HMM.out; simp [intOf]; omega
        · have HJX := hid hJx3
          clear hJx3
          gi_wp2
          refine bodyPost_ret (results_none rfl _ _ _) rfl ?_
          exact ⟨⟨_, rfl⟩, .inr ⟨_, by rw [← HRG.out]; exact ⟨(List.range m).drop (q + 1), by rw [show List.range (q + 1) = (List.range m).take (q + 1) by rw [List.take_range, Nat.min_eq_left hlt]]; exact List.take_append_drop _ _⟩, HJX.out⟩⟩
    · obtain rfl : q = m := by omega
      have hIM : ¬ I < 2 * q := by omega
      rw [hI] at b0
      gi_wp2
      go_end0
      exact ⟨⟨_, rfl⟩, .inl ⟨_, rfl, HJS.out⟩⟩
theorem chunk_stops (n Bs n0 g o m cap : Nat) (ad : Option Addr) (had : 0 < m → ad = some ⟨g, o, none⟩) (hm : m ≤ 1000) (hcap : 2 * m ≤ cap) (hc2 : cap ≤ 9223372036854775807) (hn : 1 ≤ n) (w : World) (hsrc : Bxs Bs (.slice ad (2 * m) cap) w) :
    SeqStopsK Fence.wide n Tryd.prog 64 #[.pointer (some ⟨Bs, 0, none⟩), .pointer (some ⟨Bs + 1, 0, none⟩)] (chV g o m) (Kc n0 Bs) (fun ys => ys = List.range m) (fun pre => pre <+: List.range m) m w := fun l J Jx W hW hJ _ hY h0 =>
  chunk_in n l Bs n0 g o m cap ad had hm hcap hc2 hn J Jx hY W hJ ⟨(hW.cell (p := ⟨Bs, 0, none⟩) (World.block_lt_of_cell? w _ hsrc.s)).trans hsrc.s, (hW.cell (p := ⟨Bs + 1, 0, none⟩) (World.block_lt_of_cell? w _ hsrc.n)).trans hsrc.n⟩ h0
set_option maxHeartbeats 400000 in
theorem chunk_any (ad : Option Addr) (len cap : Nat) (w : World) :
    Calls Tryd.prog 62 #[.slice ad len cap, .int .i64 2] w fun e w' => e = .returned (.func (.func 64) #[] #[.pointer (some ⟨w.heap.size, 0, none⟩), .pointer (some ⟨w.heap.size + 1, 0, none⟩)]) ∧ w' = (w.alloc (.cells #[.slice ad len cap] 60)).alloc (.cells #[.int .i64 2] 3) := by
  go_enter Tryd.func62, Tryd.ntmps62
  go_wp2
  go_ret
  exact ⟨rfl, rfl⟩
end Go.Proofs.YtfookokepnnmoaaDoor
