import Derived.Test.YtfbfmhmpoaplaaaDoorOImpL
import Derived.Test.YtfbfmhmpoaplaaaDoorNUn3
import Derived.Test.YtfbfmhmpoaplaaaDoorSKids
namespace Go.Proofs.YtfbfmhmpoaplaaaDoor
open Go.RowKit
set_option maxRecDepth 20000
set_option maxHeartbeats 4000000 in
theorem put_leaf (T : TypeId) (x : Value) (k n d : Int) (B : Nat) (v : Value) (w : World) (hA : AtomM ⟨k, n, ⟨#[]⟩, d⟩ (.iface T x)) (t2 : ∀ W, (Instr.typeAssert (.iface T x) 43 77 true).run Tryd.prog W = .ok (.tuple #[.agg #[.int .i64 0, .int .i64 0, .slice none 0 0], .bool false]) W)
    (t3 : ∀ W, (Instr.typeAssert (.iface T x) 43 81 true).run Tryd.prog W = .ok (.tuple #[.agg #[.int .i64 0, .int .i64 0, .slice none 0 0], .bool false]) W) (hB : B ≤ w.heap.size) (hown : w.ownsRow B 51 4 v 0 []) :
    Calls Tryd.prog 58 #[v, .iface T x] w fun e w' => ∃ v', e = .returned v' ∧ w'.ownsRow B 51 4 v' 1 [.int .i64 k, .int .i64 n, .string ⟨#[]⟩, .int .i64 d] ∧ Below B w w' := by
  obtain ⟨i0, hi, hz0, hz1, hz2⟩ := info_parts info_at
  have HHI := hid (And.intro hi (And.intro hz0 (And.intro hz1 hz2)))
  clear hi hz0 hz1 hz2
  obtain ⟨T', x', f, rv, hv, m1, m2, m3⟩ := hA
  cases hv
  dsimp only at m3
  have M3 := hid m3
  have HOW := hid hown
  clear m3 hown
  go_enter Tryd.func58, Tryd.ntmps58
  go_wp2_with fail
  refine (M3.out _).mono ?_
  rintro e w1 ⟨rfl, hb1⟩
  have HB1 := hid hb1
  clear hb1
  go_wp2_with fail
  refine (strClone_nil _).mono ?_
  rintro e w2 ⟨rfl, hw⟩
  have hw2 := hw.symm
  clear hw
  subst hw2
  have hcl : ∀ j u, [Value.int .i64 k, .int .i64 n, .string ⟨#[]⟩, .int .i64 d][j]? = some u → ((w1.alloc (.cells #[.int .i64 k, .int .i64 n, .string ⟨#[]⟩, .int .i64 d] 51)).alloc (.cells #[.int .i64 k, .int .i64 n, .string ⟨#[]⟩, .int .i64 d] 51)).cell? ((⟨w1.heap.size + 1, 0, none⟩ : Addr).add j) = some u := fun j u h => by
    have hc := cell_new_row (w1.alloc (.cells #[.int .i64 k, .int .i64 n, .string ⟨#[]⟩, .int .i64 d] 51)) #[.int .i64 k, .int .i64 n, .string ⟨#[]⟩, .int .i64 d] 51 j
    rw [World.size_alloc] at hc
    rw [show ((⟨w1.heap.size + 1, 0, none⟩ : Addr).add j) = ⟨w1.heap.size + 1, j, none⟩ from by simp [Addr.add, eq_comm], hc]
    simpa using h
  have hob := ((own_below HOW.out HB1.out).alloc (.cells #[.int .i64 k, .int .i64 n, .string ⟨#[]⟩, .int .i64 d] 51)).alloc (.cells #[.int .i64 k, .int .i64 n, .string ⟨#[]⟩, .int .i64 d] 51)
  have HCL := hid hcl
  have HOB := hid hob
  have hz1 := HB1.out.size
  clear hcl hob
  go_wp2_with (at_builtin; refine wpList_append_own_at _ rfl (.tmp 52) (.tmp 54) 27 rfl B 51 i0 (.agg #[.int .i64 0, .int .i64 0, .string ⟨#[]⟩, .int .i64 0]) 4 40 Tryd.underlying27 HHI.out.1 HHI.out.2.1 HHI.out.2.2.1 HHI.out.2.2.2 rfl (by decide) v 0 [] rfl HOB.out ⟨w1.heap.size + 1, 0, none⟩ 1 1 [.int .i64 k, .int .i64 n, .string ⟨#[]⟩, .int .i64 d] rfl rfl HCL.out (by simp [Value.oneCell']) (by unfold maxLen; omega) (by omega) (by simp; omega) ?_; intro v' w' h2 h3 h4 h5; have H2 := hid h2; have H3 := hid h3; clear h2 h3 h4 h5)
  go_ret
  exact ⟨_, rfl, H2.out, (((HB1.out.mono hB).alloc (by omega) _).alloc (by simp; omega) _).grown H3.out (by simp; omega) (fun q e => (HOW.out.lt q e).1)⟩
end Go.Proofs.YtfbfmhmpoaplaaaDoor
