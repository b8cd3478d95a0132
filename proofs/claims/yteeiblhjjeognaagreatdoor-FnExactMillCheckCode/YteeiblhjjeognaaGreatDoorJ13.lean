import Derived.Test.YteeiblhjjeognaaGreatDoorJ10
import Derived.Test.YteeiblhjjeognaaGreatDoorJ11
import Derived.Test.YteeiblhjjeognaaGreatDoorJ09
import Derived.Test.YteeiblhjjeognaaGreatDoorJ12
/-! Copies. -/
namespace Go.Proofs.YteeiblhjjeognaaGreatDoor.R
open Go.RowKit
set_option maxRecDepth 20000
theorem info_Int : (Tryz.prog.info? 3).map (fun i => (i.zero, i.size, i.bytes)) = some (some (.int .i64 0), 1, 8) := by kernel_rfl
set_option maxHeartbeats 4000000 in
theorem toSInt_any (l : List Int) {v : Value} (w : World) (hx : l.length ≤ 1048576) (k0 : SIntA w v l) :
    Calls Tryz.prog 70 #[v] w fun e w' => ∃ u, e = .returned u ∧ SIntR w.heap.size w' u l ∧ Below w.heap.size w w' := by
  have HK := hid k0
  have HX := hid hx
  have hN : l.length ≤ 1048576 := hx
  obtain ⟨ad, cap, rfl⟩ := k0.sl
  clear hx k0
  obtain ⟨i0, hi, hz0, hz1, hz2⟩ := info_parts info_Int
  have HHI := hid (And.intro hi (And.intro hz0 (And.intro hz1 hz2)))
  clear hi hz0 hz1
  go_enter Tryz.func70, Tryz.ntmps70
  go_wp2_with (at_make; refine wpList_make_full _ rfl _ _ 41 rfl w.heap.size 3 i0 (.int .i64 0) 1 Tryz.underlying41 HHI.out.1 HHI.out.2.1 HHI.out.2.2.1 _ _ _ _ l.length rfl rfl rfl rfl (by rw [hz2]; omega) (by unfold maxLen; omega) (Nat.le_refl _) ?_; intro w1 o1 g1)
  have HF0 : Hid (SIntF w.heap.size w1 l 0) := by
    obtain ⟨h1, ⟨h2, _⟩ | ⟨g, c, cur, e, _, h4, _, _, h7, _⟩⟩ := o1
    · cases h2
    · cases e
      exact ⟨cur, h4, h7, fun i h => absurd h (Nat.not_lt_zero _)⟩
  have HB0 := hid ((Below.refl w.heap.size w).grown g1 (Nat.le_refl _) (fun q e => by cases e))
  clear o1 g1
  go_loopw [4] (fun i wr => ∃ j : Nat, j ≤ l.length ∧ i = .int .i64 j ∧ SIntF w.heap.size wr l j ∧ Below w.heap.size w wr) (fun i _ => l.length - (intOf i).toNat)
  case atStart => exact ⟨0, Nat.zero_le _, rfl, HF0.out, HB0.out⟩
  case round =>
    obtain ⟨j, hj, rfl, hfi, hbw⟩ := hrel
    have HFI := hid hfi
    have HBW := hid hbw
    have hgl := hfi.lt
    clear hfi hbw
    by_cases hlt : j < l.length
    · obtain ⟨a, c, e9, hal, c0⟩ := (HK.out.next HBW.out).at hlt
      injection e9 with ea en ec
      clear en
      subst ea ec
      have HFX := hid (HFI.out.step hlt)
      obtain ⟨⟨v0, x0⟩, y0⟩ := HFI.out.room (i := j) (by omega)
      obtain ⟨x, hx⟩ : ∃ x, l.getD j 0 = x := ⟨_, rfl⟩
      rw [hx] at c0 HFX
      clear hx
      unfold IntA at c0
      go_wp2
      go_roundw
      case rel => exact ⟨j + 1, by omega, by go_num, HFX.out, below_set HBW.out _ _ (Nat.le_refl _) _⟩
      case measure => simp [intOf]; omega
    · obtain rfl : j = l.length := by omega
      go_wp2
      go_ret
      exact ⟨_, rfl, ⟨w.heap.size, rfl, Nat.le_refl _, HFI.out⟩, HBW.out⟩
end Go.Proofs.YteeiblhjjeognaaGreatDoor.R
/-! What an instruction gives, in the model. -/
namespace Go.Proofs.YteeiblhjjeognaaGreatDoor.C
open Go.RowKit
set_option maxRecDepth 20000
theorem gives_any {fns : List Fn} {f : Fn} {i : In} {sl sk : List Int} {w : World} {cv pv iv av bv : Value} (h1 : FnsRow w cv fns) (h2 : IntRow w pv f.params) (h3 : InsRow w iv f.ins) (h4 : IntRow w av sl) (h5 : IntRow w bv sk) (hn : sk.length ≤ 1000) (hF : ∀ g ∈ fns, FnR fns g) (hi : InsR fns f i) (hsl : (sl.length : Int) = f.slots) (hr : ∀ x ∈ sk, 1 ≤ x ∧ x ≤ 10) :
    Calls Tryz.prog 38 #[.agg #[cv], .agg #[.string f.name, pv, .int .i64 f.result, .int .i64 f.slots, iv], inV i, .agg #[.int .i64 1, av, bv]] w (GvEnd fns f i sl sk w) := by
  obtain ⟨op, a, n, tx⟩ := i
  have hop := hi.op
  dsimp only at hop
  unfold inV
  dsimp only
  obtain rfl | rfl | rfl | rfl | rfl | rfl | rfl | rfl | rfl | rfl | rfl | rfl | rfl | rfl | rfl | rfl : op = 1 ∨ op = 2 ∨ op = 3 ∨ op = 4 ∨ op = 5 ∨ op = 6 ∨ op = 7 ∨ op = 8 ∨ op = 9 ∨ op = 10 ∨ op = 11 ∨ op = 12 ∨ op = 13 ∨ op = 14 ∨ op = 15 ∨ op = 16 := by omega
  · exact gives_1 fns f a n tx sl sk w cv pv iv av bv h1 h2 h3 h4 h5 hn
  · have h9 := hi.slot (.inl rfl)
    dsimp only at h9
    obtain ⟨m, rfl⟩ : ∃ m : Nat, a = m := ⟨a.toNat, by omega⟩
    exact gives_2 fns f m n tx sl sk w cv pv iv av bv h1 h2 h3 h4 h5 hn (by omega) (by omega)
  · exact gives_3 fns f a n tx sl sk w cv pv iv av bv h1 h2 h3 h4 h5 hn
  · exact gives_4 fns f a n tx sl sk w cv pv iv av bv h1 h2 h3 h4 h5 hn
  · exact gives_5 fns f a n tx sl sk w cv pv iv av bv h1 h2 h3 h4 h5 hn
  · have h9 := hi.bin rfl
    exact gives_6 fns f a h9.1 h9.2 n tx sl sk w cv pv iv av bv h1 h2 h3 h4 h5 hn
  · exact gives_7 fns f a n tx sl sk w cv pv iv av bv h1 h2 h3 h4 h5 hn
  · have h9 := hi.built rfl
    exact gives_8 fns f a h9.1 h9.2 n tx sl sk w cv pv iv av bv h1 h2 h3 h4 h5 hn hr
  · have h9 := hi.call rfl
    dsimp only at h9
    obtain ⟨m, rfl⟩ : ∃ m : Nat, a = m := ⟨a.toNat, by omega⟩
    have hm : m < fns.length := by omega
    have hg : fns.getD m fn0 ∈ fns := by rw [List.getD_eq_getElem?_getD, List.getElem?_eq_getElem hm]; exact List.getElem_mem hm
    exact gives_9 fns f m n tx sl sk w cv pv iv av bv h1 h2 h3 h4 h5 hn hm (by omega) (hF _ hg).few
  · exact gives_10 fns f a n tx sl sk w cv pv iv av bv h1 h2 h3 h4 h5 hn
  · exact gives_11 fns f a n tx sl sk w cv pv iv av bv h1 h2 h3 h4 h5 hn
  · have h9 := hi.ret rfl
    dsimp only at h9
    rcases h9 with ⟨rfl, _⟩ | ⟨rfl, _⟩
    · exact gives_12o fns f n tx sl sk w cv pv iv av bv h1 h2 h3 h4 h5 hn
    · exact gives_12z fns f n tx sl sk w cv pv iv av bv h1 h2 h3 h4 h5 hn
  · exact gives_13 fns f a n tx sl sk w cv pv iv av bv h1 h2 h3 h4 h5 hn
  · exact gives_14 fns f a n tx sl sk w cv pv iv av bv h1 h2 h3 h4 h5 hn
  · exact gives_15 fns f a n tx sl sk w cv pv iv av bv h1 h2 h3 h4 h5 hn
  · exact gives_16 fns f a n tx sl sk w cv pv iv av bv h1 h2 h3 h4 h5 hn
end Go.Proofs.YteeiblhjjeognaaGreatDoor.C
