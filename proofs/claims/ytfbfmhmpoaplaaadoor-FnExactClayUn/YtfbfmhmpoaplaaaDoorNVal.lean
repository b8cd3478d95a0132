import Derived.Test.YtfbfmhmpoaplaaaDoorNPut
import Derived.Test.YtfbfmhmpoaplaaaDoorNOwn
import Derived.Laws.MakeOwn
namespace Go.Proofs.YtfbfmhmpoaplaaaDoor
open Go.RowKit
set_option maxRecDepth 20000
theorem fSize (a b : Int) (w : World) : (Instr.field 75 (.agg #[.int .i64 a, .int .i64 b]) 0).run Tryd.prog w = .ok (.int .i64 a) w := by kernel_rfl
set_option maxHeartbeats 4000000 in
theorem valueOf_leaf (T : TypeId) (x : Value) (k n d : Int) (f : Nat) (rv : Value) (w : World) (h1 : One w) (m1 : ∀ w, (method 252 T x "loop.example/kilnyard/impl.size").run Tryd.prog w = .ok (f, rv) w) (m2 : ∀ w, (callFunc f #[rv]).run Tryd.prog w = .ok (.enter f #[rv]) w) (m3 : ∀ w, One w → Calls Tryd.prog f #[rv] w fun e w' => e = .returned (.agg #[.int .i64 1, .int .i64 0]) ∧ Below w.heap.size w w')
    (hA : AtomM ⟨k, n, ⟨#[]⟩, d⟩ (.iface T x)) (t2 : ∀ W, (Instr.typeAssert (.iface T x) 43 77 true).run Tryd.prog W = .ok (.tuple #[.agg #[.int .i64 0, .int .i64 0, .slice none 0 0], .bool false]) W)
    (t3 : ∀ W, (Instr.typeAssert (.iface T x) 43 81 true).run Tryd.prog W = .ok (.tuple #[.agg #[.int .i64 0, .int .i64 0, .slice none 0 0], .bool false]) W) :
    Calls Tryd.prog 47 #[.iface T x] w fun e w' => ∃ g c, e = .returned (.agg #[.slice (some ⟨g, 0, none⟩) 1 c]) ∧ w.heap.size ≤ g ∧ OwnA w' g 1 [⟨k, n, ⟨#[]⟩, d⟩] ∧ Below w.heap.size w w' := by
  have M3 := hid m3
  have HAM := hid hA
  have HT2 := hid t2
  have HT3 := hid t3
  have g1 := fSize 1 0
  clear m3 hA t2 t3
  have HB0 := hid ((Below.refl w.heap.size w).alloc (Nat.le_refl _) (.cells #[.slice none 0 0] 29))
  have HO := hid (h1.below HB0.out h1.2.2)
  clear h1
  go_enter Tryd.func47, Tryd.ntmps47
  go_wp2_with fail
  refine (M3.out _ HO.out).mono ?_
  rintro e w1 ⟨rfl, hb1⟩
  have HB1 := hid hb1
  clear hb1
  obtain ⟨i0, hi, hz0, hz1, hz2⟩ := info_parts info_at
  have hs1 : w.heap.size + 1 ≤ w1.heap.size := by have := HB1.out.size; simpa using this
  obtain ⟨w2, hr, how, hgr⟩ := run_make_own (P := Tryd.prog) w1 (w.heap.size + 1) 27 51 i0 _ 4 Tryd.underlying27 hi hz0 hz1 .i64 .i64 1 (by rw [hz2]; omega) (by unfold maxLen; omega) hs1
  have hr' : (Instr.makeSlice 27 (.int .i64 0) (.int .i64 1)).run Tryd.prog w1 = .ok (.slice (some ⟨w1.heap.size, 0, none⟩) 0 1) w2 := hr
  have HOW := hid how
  have HB2 := hid ((HB1.out.mono (by simp : w.heap.size + 1 ≤ _)).grown hgr (by simpa using hs1) (fun q e => by cases e))
  have hs2 : w.heap.size + 1 ≤ w2.heap.size := by have := HB2.out.size; simpa using this
  clear hi hz0 hz1 hz2 how hgr hr
  go_wp2_with fail
  refine (put_leaf T x k n d (w.heap.size + 1) _ w2 HAM.out HT2.out HT3.out hs2 HOW.out).mono ?_
  rintro e w3 ⟨v', rfl, how, hb3⟩
  have HB3 := hid (HB2.out.trans hb3)
  have HO3 := hid how
  have hr3 := one_row (u := .slice none 0 0) (t := 29) (w := w) (w1 := w3) (by simpa using HB3.out)
  obtain ⟨p3, q3⟩ := hr3
  clear how hb3 hr'
  obtain ⟨g, c, rfl, hg, hgl, hat⟩ : ∃ g c, v' = .slice (some ⟨g, 0, none⟩) 1 c ∧ w.heap.size + 1 ≤ g ∧ g < w3.heap.size ∧ OwnA w3 g 1 [⟨k, n, ⟨#[]⟩, d⟩] := by
    obtain ⟨_, ⟨_, h⟩ | ⟨g, c, cur, rfl, h2, h3, h4, h5, h6, h7⟩⟩ := HO3.out
    · omega
    · refine ⟨g, c, rfl, h2, (Array.getElem?_eq_some_iff.1 h3).1, ⟨cur, h3, by omega⟩, ?_⟩
      have hc : ∀ i u, [Value.int .i64 k, .int .i64 n, .string ⟨#[]⟩, .int .i64 d][i]? = some u → w3.cell? ⟨g, i, none⟩ = some u := fun i u h => by
        have := HO3.out.cells rfl i u h
        rwa [show ((⟨g, 0, none⟩ : Addr).add i) = ⟨g, i, none⟩ from by simp [Addr.add, eq_comm]] at this
      intro i y hy
      obtain rfl : i = 0 := by have := (List.getElem?_eq_some_iff.1 hy).1; simp at this; omega
      simp at hy
      subst hy
      exact ⟨hc 0 _ rfl, hc 1 _ rfl, hc 2 _ rfl, hc 3 _ rfl⟩
  have HAT := hid hat
  clear hat
  go_wp2
  refine bodyPost_ret (v := .agg #[.slice (some ⟨g, 0, none⟩) 1 c]) (by simp [results, Tryd.results47, go_sem, p3]) rfl ⟨g, c, rfl, by omega, ?_, ?_⟩
  · exact HAT.out.keep (Below.heap_setCell _ _ _ _ (by show _ ≠ _; simp only; omega))
  · exact below_set (HB0.out.trans (HB3.out.mono (by omega))) _ _ (Nat.le_refl _) _
end Go.Proofs.YtfbfmhmpoaplaaaDoor
