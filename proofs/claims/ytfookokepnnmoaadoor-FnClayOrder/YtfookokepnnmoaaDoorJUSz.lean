import Derived.ProofKit
import Derived.Deep.Slices
import Derived.Test.YtfookokepnnmoaaDoorJTBase
namespace Go.Proofs.YtfookokepnnmoaaDoor
open Go.RowKit
set_option maxRecDepth 20000
/-- The four cells of an atom at an address. -/
def FourA (W : World) (a : Addr) (x : At) : Prop :=
  W.cell? a = some (.int .i64 x.kind) ∧ W.cell? ⟨a.block, a.off + 1, none⟩ = some (.int .i64 x.n) ∧ W.cell? ⟨a.block, a.off + 2, none⟩ = some (.string x.text) ∧ W.cell? ⟨a.block, a.off + 3, none⟩ = some (.int .i64 x.kids)
/-- Atoms that came in. -/
def AtomsA (W : World) (ad : Option Addr) (l : List At) : Prop := l = [] ∨ ∃ a, ad = some a ∧ a.block < W.heap.size ∧ ∀ i x, l[i]? = some x → FourA W (a.add (i * 4)) x
theorem FourA.below {W W' : World} {B : Nat} {a : Addr} {x : At} (h : FourA W a x) (hb : Below B W W') (hB : a.block < B) : FourA W' a x := by
  have hk : ∀ p : Addr, p.block = a.block → W'.cell? p = W.cell? p := fun p hp => hb.cell (by rw [hp]; exact hB)
  obtain ⟨c0, c1, c2, c3⟩ := h
  exact ⟨(hk _ rfl).trans c0, (hk ⟨_, _, none⟩ rfl).trans c1, (hk ⟨_, _, none⟩ rfl).trans c2, (hk ⟨_, _, none⟩ rfl).trans c3⟩
theorem AtomsA.below {W W' : World} {ad : Option Addr} {l : List At} (h : AtomsA W ad l) (hb : Below W.heap.size W W') : AtomsA W' ad l := by
  rcases h with h | ⟨a, rfl, h1, h2⟩
  · exact .inl h
  · exact .inr ⟨a, rfl, Nat.lt_of_lt_of_le h1 hb.size, fun i x hx => (h2 i x hx).below hb (by rw [add_block]; exact h1)⟩
set_option maxHeartbeats 1000000 in
theorem szAtom_any (x : At) (l : Int) (w : World) (hl : 0 ≤ l) (hl2 : l ≤ 1048576) (ht : x.text.size ≤ maxLen) :
    Calls Tryd.prog 40 #[atV x, .int .i64 l] w fun e w' => e = .returned (.int .i64 (if l < x.text.size then -1 else l - x.text.size)) ∧ Below w.heap.size w w' := by
  obtain ⟨k, n, t, kids⟩ := x
  unfold maxLen at ht
  have ht' : t.size ≤ 9223372036854775807 := by simpa using ht
  clear ht
  unfold atV
  by_cases h : l < t.size
  · have h2 : l - (t.size : Int) < 0 := by omega
    go_enter Tryd.func40, Tryd.ntmps40
    go_wp2
    go_ret
    exact ⟨ret_int (by simp), (Below.refl _ _).alloc (Nat.le_refl _) _⟩
  · have h2 : ¬ l - (t.size : Int) < 0 := by omega
    go_enter Tryd.func40, Tryd.ntmps40
    go_wp2
    go_ret
    exact ⟨ret_int (by simp), (Below.refl _ _).alloc (Nat.le_refl _) _⟩
set_option maxHeartbeats 1000000 in
theorem toAtom_any (x : At) (w : World) :
    Calls Tryd.prog 41 #[atV x] w fun e w' => e = .returned (atV x) ∧ Below w.heap.size w w' := by
  obtain ⟨k, n, t, kids⟩ := x
  unfold atV
  go_enter Tryd.func41, Tryd.ntmps41
  go_wp2
  refine bodyPost_ret (v := .agg #[.int .i64 k, .int .i64 n, .string t, .int .i64 kids]) ?_ rfl ⟨rfl, ?_⟩
  · simp [results, Tryd.results41, go_sem]
  · exact (below_two' _ _ _).alloc (by simp; omega) _
set_option maxHeartbeats 1000000 in
theorem szAtomS_any (a : Addr) (l : List At) (N cap : Nat) (m : Int) (w : World) (hl : l.length = N) (hm0 : 0 ≤ m) (hm1 : m ≤ 1048576) (hN : N ≤ maxLen) (ha : a.block < w.heap.size) (hn : ∀ i x, l[i]? = some x → FourA w (a.add (i * 4)) x) (ht : ∀ x ∈ l, x.text.size ≤ maxLen) :
    Calls Tryd.prog 23 #[.slice (some a) N cap, .int .i64 m] w fun e w' => (∃ r, e = .returned (.int .i64 r) ∧ -1 ≤ r ∧ r ≤ m ∧ (0 ≤ r → N ≤ 1048576 ∧ ∀ x ∈ l, x.text.size ≤ 1048576)) ∧ Below w.heap.size w w' := by
  have HN := hid hn
  have HT := hid ht
  have HL := hid hl
  unfold maxLen at hN
  have hN' : N ≤ 9223372036854775807 := by simpa using hN
  clear hn ht hN hl
  by_cases h0 : (N : Int) ≤ m
  · have h1 : ¬ m - (N : Int) < 0 := by omega
    go_enter Tryd.func23, Tryd.ntmps23
    go_wp2
    go_loopw [1, 5] (fun v i wr => ∃ (j : Nat) (r : Int), j ≤ N ∧ i = .int .i64 j ∧ v = .int .i64 r ∧ 0 ≤ r ∧ r ≤ m ∧ (∀ i x, l[i]? = some x → i < j → x.text.size ≤ 1048576) ∧ Below w.heap.size w wr) (fun _ i _ => N - (intOf i).toNat)
    case atStart => exact ⟨0, _, Nat.zero_le _, rfl, rfl, by omega, by omega, fun i x _ h => absurd h (Nat.not_lt_zero _), Below.refl _ _⟩
    case round =>
      obtain ⟨j, r, hj, rfl, rfl, hr0, hr1, hin, hbw⟩ := hrel
      have HIN := hid hin
      have HBW := hid hbw
      clear hin hbw
      by_cases hlt : j < N
      · have hjl : j < l.length := by rw [HL.out]; exact hlt
        obtain ⟨x, hx⟩ : ∃ x, l[j]? = some x := ⟨_, List.getElem?_eq_getElem hjl⟩
        obtain ⟨c0, c1, c2, c3⟩ := (HN.out j x hx).below HBW.out (by rw [add_block]; exact ha)
        have hxt := HT.out x (List.mem_of_getElem? hx)
        have HX := hid hx
        clear hx
        by_cases hs : r < x.text.size
        · have hs2 : (if r < (x.text.size : Int) then (-1 : Int) else r - x.text.size) = -1 := if_pos hs
          go_wp2_with (go_at_call 40; refine (szAtom_any x r _ hr0 (by omega) hxt).mono ?_; rintro e w1 ⟨rfl, hb1⟩; rw [hs2])
          go_ret
          exact ⟨⟨-1, rfl, by omega, by omega, fun h => by omega⟩, HBW.out.trans (hb1.mono HBW.out.size)⟩
        · have hs2 : (if r < (x.text.size : Int) then (-1 : Int) else r - x.text.size) = r - x.text.size := if_neg hs
          obtain ⟨r2, hr2⟩ : ∃ r2, r - (x.text.size : Int) = r2 := ⟨_, rfl⟩
          have hr3 : 0 ≤ r2 := by omega
          have hr4 : r2 ≤ m := by omega
          have HY : Hid (x.text.size ≤ 1048576) := by show _ ≤ _; omega
          go_wp2_with (go_at_call 40; refine (szAtom_any x r _ hr0 (by omega) hxt).mono ?_; rintro e w1 ⟨rfl, hb1⟩; rw [hs2, hr2])
          go_roundw
          case rel => exact ⟨j + 1, r2, by omega, by go_num, rfl, hr3, hr4, fun i y hy hi => by
            rcases Nat.lt_or_eq_of_le (Nat.lt_succ_iff.1 hi) with h | h
            · exact HIN.out i y hy h
            · subst h; rw [HX.out] at hy; cases hy; exact HY.out, HBW.out.trans (hb1.mono HBW.out.size)⟩
          case measure => simp [intOf]; omega
      · obtain rfl : j = N := by omega
        go_wp2
        go_ret
        exact ⟨⟨r, rfl, by omega, hr1, fun _ => ⟨by omega, fun x hx => by
          obtain ⟨i, hi, rfl⟩ := List.getElem_of_mem hx
          exact HIN.out i _ (List.getElem?_eq_getElem hi) (by have := HL.out; omega)⟩⟩, HBW.out⟩
  · have h1 : m - (N : Int) < 0 := by omega
    go_enter Tryd.func23, Tryd.ntmps23
    go_wp2
    go_ret
    exact ⟨⟨-1, rfl, by omega, by omega, fun h => by omega⟩, Below.refl _ _⟩
set_option maxHeartbeats 1000000 in
theorem szAtomS_none (ad : Option Addr) (cap : Nat) (m : Int) (w : World) (hm0 : 0 ≤ m) (hm1 : m ≤ 1048576) :
    Calls Tryd.prog 23 #[.slice ad 0 cap, .int .i64 m] w fun e w' => e = .returned (.int .i64 m) ∧ w' = w := by
  go_enter Tryd.func23, Tryd.ntmps23
  go_wp2
  go_loopw [1, 5] (fun l i wr => i = .int .i64 0 ∧ l = .int .i64 m ∧ wr = w) (fun _ _ _ => 0)
  case atStart => exact ⟨rfl, rfl, rfl⟩
  case round =>
    obtain ⟨rfl, rfl, rfl⟩ := hrel
    go_wp2
    go_ret
    exact ⟨rfl, rfl⟩
theorem szAtomS_all (ad : Option Addr) (l : List At) (N cap : Nat) (m : Int) (w : World) (hl : l.length = N) (hm0 : 0 ≤ m) (hm1 : m ≤ 1048576) (hN : N ≤ maxLen) (hn : AtomsA w ad l) (ht : ∀ x ∈ l, x.text.size ≤ maxLen) :
    Calls Tryd.prog 23 #[.slice ad N cap, .int .i64 m] w fun e w' => (∃ r, e = .returned (.int .i64 r) ∧ -1 ≤ r ∧ r ≤ m ∧ (0 ≤ r → N ≤ 1048576 ∧ ∀ x ∈ l, x.text.size ≤ 1048576)) ∧ Below w.heap.size w w' := by
  rcases hn with rfl | ⟨a, rfl, h1, h2⟩
  · cases hl
    refine (szAtomS_none ad cap m w hm0 hm1).mono ?_
    rintro e w' ⟨rfl, rfl⟩
    exact ⟨⟨_, rfl, by omega, by omega, fun _ => ⟨by simp, fun x h => by cases h⟩⟩, Below.refl _ _⟩
  · exact szAtomS_any a l N cap m w hl hm0 hm1 hN h1 h2 ht
set_option maxHeartbeats 1000000 in
theorem szValue_any (ad : Option Addr) (l : List At) (N cap : Nat) (m : Int) (w : World) (hl : l.length = N) (hm0 : 0 ≤ m) (hm1 : m ≤ 1048576) (hN : N ≤ maxLen) (hn : AtomsA w ad l) (ht : ∀ x ∈ l, x.text.size ≤ maxLen) :
    Calls Tryd.prog 11 #[.agg #[.slice ad N cap], .int .i64 m] w fun e w' => (∃ r, e = .returned (.int .i64 r) ∧ -1 ≤ r ∧ r ≤ m ∧ (0 ≤ r → N ≤ 1048576 ∧ ∀ x ∈ l, x.text.size ≤ 1048576)) ∧ Below w.heap.size w w' := by
  have HB := hid ((Below.refl w.heap.size w).alloc (Nat.le_refl _) (.cells #[.slice ad N cap] 34))
  have HN := hid (hn.below HB.out)
  have HT := hid ht
  have HL := hid hl
  clear hn ht hl
  go_enter Tryd.func11, Tryd.ntmps11
  go_wp2_with (go_at_call 23; refine (szAtomS_all ad l N cap m _ HL.out hm0 hm1 hN HN.out HT.out).mono ?_; rintro e w1 ⟨⟨r, rfl, h1, h2, h3⟩, hb1⟩; have H3 := hid h3; have HB1 := hid (HB.out.trans (hb1.mono (by simp))); clear h3 hb1)
  · go_ret
    exact ⟨⟨_, rfl, by omega, by omega, fun h => by omega⟩, HB1.out⟩
  · go_ret
    exact ⟨⟨_, rfl, h1, h2, H3.out⟩, HB1.out⟩
end Go.Proofs.YtfookokepnnmoaaDoor
namespace Go.Proofs.YtfookokepnnmoaaDoor
open Go.ChangeShapes Go.WideShapes Go.ChangeAt Go.RowKit Go.Deep
set_option maxRecDepth 20000
theorem cellsAtom : Tryd.prog.cellsOf 85 = 4 := by kernel_rfl
theorem cellsVal : Tryd.prog.cellsOf 34 = 1 := by kernel_rfl
theorem cellsSl : Tryd.prog.cellsOf 32 = 1 := by kernel_rfl
theorem cellsInt : Tryd.prog.cellsOf 3 = 1 := by kernel_rfl
theorem cellsInt64 : Tryd.prog.cellsOf 2 = 1 := by kernel_rfl
theorem cellsStr : Tryd.prog.cellsOf 9 = 1 := by kernel_rfl
theorem atom_open {H : Type} {enc : TypeId × Value → H} {W : World} {base : Nat} {spare : Nat → Bool} {held : Bool} {n : Nat} {cs : List Value} {z : DataW H × List MemPlace} (h : DataW.trod enc Tryd.prog W base spare held n 85 cs = some z) :
    ∃ x : At, cs = [.int .i64 x.kind, .int .i64 x.n, .string x.text, .int .i64 x.kids] ∧ x.text.size ≤ maxLen := by
  obtain ⟨xs, m, _, _, hl, hlen, hf⟩ := DataW.trod_struct Tryd.underlying85 h
  rw [cellsAtom] at hl
  match cs, hl with
  | [c0, c1, c2, c3], _ =>
    match xs, hlen with
    | [y0, y1, y2, y3], _ =>
      have f0 := hf 0 _ rfl
      have f1 := hf 1 _ rfl
      have f2 := hf 2 _ rfl
      have f3 := hf 3 _ rfl
      simp [cellsInt, cellsInt64, cellsStr] at f0 f1 f2 f3
      obtain ⟨k, e0, _, _⟩ := DataW.trod_int Tryd.underlying3 f0
      obtain ⟨nn, e2, _, _⟩ := DataW.trod_int Tryd.underlying2 f1
      obtain ⟨t, e3, _, ht⟩ := DataW.trod_string Tryd.underlying9 f2
      obtain ⟨kd, e4, _, _⟩ := DataW.trod_int Tryd.underlying3 f3
      cases e0; cases e2; cases e3; cases e4
      exact ⟨⟨k, nn, t, kd⟩, rfl, ht⟩
theorem value_open {H : Type} {enc : TypeId × Value → H} {W : World} {base : Nat} {v : Value} {d : DataW H} {ps : List MemPlace} (hv : Value.okWide Tryd.prog W .any base 34 v) (h : DataW.Trod enc Tryd.prog W 0 (fun _ => true) true 34 v d ps) :
    ∃ ad l N cap, v = .agg #[.slice ad N cap] ∧ l.length = N ∧ N ≤ maxLen ∧ AtomsA W ad l ∧ ∀ x ∈ l, x.text.size ≤ maxLen := by
  obtain ⟨cs, rfl, hsz⟩ := okWide_struct Tryd.underlying34 hv
  rw [cellsVal] at hsz
  obtain ⟨c0, rfl⟩ : ∃ c0, cs = #[c0] := ⟨cs[0], by apply Array.ext; simp [hsz]; intro i h1 h2; simp at h2; subst h2; rfl⟩
  obtain ⟨fuel, hf⟩ := h
  obtain ⟨y0, n, _, _, hy⟩ := trod_struct1 Tryd.underlying34 hf
  simp [cellsSl, Value.cells] at hy
  rcases open_slice Tryd.underlying32 hy with ⟨e, _⟩ | ⟨a, len, cap, m, n2, D, Pl, e, hb, hlc, hcm, hm, _, hel⟩
  · cases e
    exact ⟨none, [], 0, 0, rfl, rfl, Nat.zero_le _, .inl rfl, fun x h => by cases h⟩
  · cases e
    have hall : ∀ i, ∃ x : At, i < len → FourA W (a.add (i * 4)) x ∧ x.text.size ≤ maxLen ∧ a.block < W.heap.size := fun i => by
      by_cases hi : i < len
      · have hm2 : len ≤ m := by rw [hm]; simp; exact hlc
        obtain ⟨cs', hc, ht⟩ := hel i (by omega)
        rw [cellsAtom] at hc
        obtain ⟨x, rfl, hx⟩ := atom_open ht
        refine ⟨x, fun _ => ?_⟩
        have hbl := World.cells?_block hc (by omega)
        rw [add_block] at hbl
        obtain ⟨_, _, hg⟩ := World.cells?_some hc
        refine ⟨⟨?_, ?_, ?_, ?_⟩, hx, hbl⟩
        · have := hg 0 (by omega); simpa [Addr.add] using this
        · have := hg 1 (by omega); rw [add_one _ 1 (by decide)] at this; simpa using this
        · have := hg 2 (by omega); rw [add_one _ 2 (by decide)] at this; simpa using this
        · have := hg 3 (by omega); rw [add_one _ 3 (by decide)] at this; simpa using this
      · exact ⟨⟨0, 0, ⟨#[]⟩, 0⟩, fun h => absurd h hi⟩
    obtain ⟨nd, hnd⟩ := Classical.skolem.1 hall
    have hget : ∀ i x, ((List.range len).map nd)[i]? = some x → i < len ∧ x = nd i := fun i x hx => by
      rw [List.getElem?_map] at hx
      by_cases hi : i < len
      · rw [List.getElem?_range hi] at hx
        exact ⟨hi, by simpa using hx.symm⟩
      · rw [List.getElem?_eq_none (by simp; omega)] at hx; cases hx
    refine ⟨some a, (List.range len).map nd, len, cap, rfl, by simp, by omega, ?_, fun x hx => ?_⟩
    · by_cases h0 : len = 0
      · exact .inl (by simp [h0])
      · refine .inr ⟨a, rfl, (hnd 0 (by omega)).2.2, fun i x hx => ?_⟩
        obtain ⟨hi, rfl⟩ := hget i x hx
        exact (hnd i hi).1
    · obtain ⟨i, hi, rfl⟩ := List.getElem_of_mem hx
      obtain ⟨h1, h2⟩ := hget i _ (List.getElem?_eq_getElem hi)
      rw [h2]; exact (hnd i h1).2.1
end Go.Proofs.YtfookokepnnmoaaDoor
