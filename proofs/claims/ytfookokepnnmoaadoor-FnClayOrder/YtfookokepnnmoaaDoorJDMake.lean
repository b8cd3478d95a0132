import Derived.Test.YtfookokepnnmoaaDoorJDSpec
namespace Go.Proofs.YtfookokepnnmoaaDoor
open Go.RowKit
set_option maxRecDepth 20000
theorem info_at' : (Tryd.prog.info? 51).map (fun i => (i.zero, i.size, i.bytes)) = some (some (.agg #[.int .i64 0, .int .i64 0, .string ⟨#[]⟩, .int .i64 0]), 4, 40) := by kernel_rfl
/-- A row of values: cells xs, whose atoms are ls. -/
def KidsIn (R : Nat) (w : World) (ad : Option Addr) (xs : List Value) (ls : List (List At)) : Prop :=
  xs.length = ls.length ∧ (xs = [] ∨ ∃ g o, ad = some ⟨g, o, none⟩ ∧ g < w.heap.size ∧ g ≠ R ∧ ∀ j u, xs[j]? = some u → w.cell? ⟨g, o + j, none⟩ = some u) ∧ ∀ (j : Nat) u l, xs[j]? = some u → ls[j]? = some l → ValIn R w u l ∧ l ≠ []
theorem KidsIn.sv {R : Nat} {w w' : World} {ad : Option Addr} {xs : List Value} {ls : List (List At)} (h : KidsIn R w ad xs ls) (hs : Sv (fun k => k = R) w w') : KidsIn R w' ad xs ls := by
  obtain ⟨h1, h2, h3⟩ := h
  refine ⟨h1, h2.imp_right ?_, fun j u l hu hl => ⟨(h3 j u l hu hl).1.sv hs, (h3 j u l hu hl).2⟩⟩
  rintro ⟨g, o, e, a, b, c⟩
  exact ⟨g, o, e, Nat.lt_of_lt_of_le a hs.size, b, fun j u hu => (hs.cell (p := ⟨g, o + j, none⟩) a b).trans (c j u hu)⟩
theorem KidsIn.next {R : Nat} {w w' : World} {ad : Option Addr} {xs : List Value} {ls : List (List At)} (h : KidsIn R w ad xs ls) (hb : Below w.heap.size w w') : KidsIn R w' ad xs ls := h.sv (Sv.of_below hb)
/-- Two cells of the function's own. -/
def Two (W : World) (B : Nat) (v : Value) : Prop := W.heap[B]? = some (.cells #[.slice none 0 0] 25 (0, 0)) ∧ W.heap[B + 1]? = some (.cells #[v] 25 (0, 0))
theorem Two.cells {W : World} {B : Nat} {v : Value} (h : Two W B v) : W.cell? ⟨B, 0, none⟩ = some (.slice none 0 0) ∧ W.frozen? ⟨B, 0, none⟩ = false ∧ W.cell? ⟨B + 1, 0, none⟩ = some v ∧ W.frozen? ⟨B + 1, 0, none⟩ = false := ⟨cell_hp h.1 0, frozen_hp h.1 0, cell_hp h.2 0, frozen_hp h.2 0⟩
theorem Two.set {W : World} {B : Nat} {v : Value} (h : Two W B v) (u : Value) : Two (W.setCell ⟨B + 1, 0, none⟩ u) B u := by
  refine ⟨(Below.heap_setCell _ _ _ _ (by show B ≠ B + 1; omega)).trans h.1, ?_⟩
  have := set_at (i := 0) u h.2
  simpa using this
theorem Two.grown {W W' : World} {B : Nat} {v : Value} {row : Option Nat} (h : Two W B v) (hg : W.grownBy W' row) (hr : ∀ k, row = some k → B + 1 < k) : Two W' B v := by
  have h1 := (Array.getElem?_eq_some_iff.1 h.1).1
  have h2 := (Array.getElem?_eq_some_iff.1 h.2).1
  exact ⟨(hg.block B h1 (fun e => by have := hr B e.symm; omega)).trans h.1, (hg.block (B + 1) h2 (fun e => by have := hr (B + 1) e.symm; omega)).trans h.2⟩
theorem flatten_take_succ (ls : List (List At)) (j : Nat) (l : List At) (h : ls[j]? = some l) : (ls.take (j + 1)).flatten = (ls.take j).flatten ++ l := by
  obtain ⟨hj, rfl⟩ := List.getElem?_eq_some_iff.1 h
  rw [List.take_succ_eq_append_getElem hj, List.flatten_append]; simp
theorem flatten_take_le (ls : List (List At)) (j : Nat) : (ls.take j).flatten.length ≤ ls.flatten.length := by
  have : ls.flatten = (ls.take j).flatten ++ (ls.drop j).flatten := by rw [← List.flatten_append, List.take_append_drop]
  rw [this, List.length_append]; omega
theorem own_bl {w : World} {B n : Nat} {v : Value} {xs : List Value} {e size : Nat} (h : w.ownsRow B e size v n xs) : ∀ k, v.ownBlock = some k → B ≤ k := fun k hk => (h.lt k hk).1
set_option maxHeartbeats 8000000 in
theorem l5Make_any (R : Nat) (kind : Int) (ad : Option Addr) (n c : Nat) (xs : List Value) (ls : List (List At)) (w : World) (hR : R < w.heap.size) (hn : xs.length = n) (hn2 : n ≤ 100000) (hk : KidsIn R w ad xs ls) (hsz : ls.flatten.length ≤ 1000000) :
    Calls Tryd.prog 44 #[.int .i64 kind, .slice ad n c] w fun e w' => ∃ s, e = .returned (.agg #[s]) ∧ ValIn R w' s (ls.flatten ++ [⟨kind, 0, ⟨#[]⟩, n⟩]) ∧ Below w.heap.size w w' := by
  obtain ⟨i0, hi, hz0, hz1, hz2⟩ := info_parts info_at'
  have HHI := hid (And.intro hi (And.intro hz0 (And.intro hz1 hz2)))
  have HK := hid hk
  have HN := hid hn
  clear hi hz0 hz1 hz2 hk hn
  have HT0 : Hid (Two ((w.alloc (.cells #[.slice none 0 0] 25)).alloc (.cells #[.slice none 0 0] 25)) w.heap.size (.slice none 0 0)) := by
    refine ⟨?_, ?_⟩
    · rw [Below.heap_alloc _ _ _ (by simp)]; exact heap_alloc_new w _
    · have := heap_alloc_new (w.alloc (.cells #[.slice none 0 0] 25)) (.cells #[.slice none 0 0] 25)
      rwa [World.size_alloc] at this
  have HB0 := hid (below_two' w (.cells #[.slice none 0 0] 25) (.cells #[.slice none 0 0] 25))
  go_enter Tryd.func44, Tryd.ntmps44
  go_wp2
  go_loopw [6] (fun i wr => ∃ (j : Nat) (v : Value) (m : Nat), j ≤ n ∧ i = .int .i64 j ∧ (ls.take j).flatten.length = m ∧ Two wr w.heap.size v ∧ wr.ownsRow (w.heap.size + 2) 51 4 v m (atRow (ls.take j).flatten) ∧ Below w.heap.size w wr ∧ w.heap.size + 2 ≤ wr.heap.size) (fun i _ => n - (intOf i).toNat)
  case atStart => exact ⟨0, .slice none 0 0, 0, Nat.zero_le _, rfl, by simp, HT0.out, World.ownsRow_nil _ _ _ _, HB0.out, by simp⟩
  case round =>
    obtain ⟨j, v, m, hj, rfl, hm, htw, how, hbw, hs2⟩ := hrel
    have HM := hid hm
    have HTW := hid htw
    have HOW := hid how
    have HBW := hid hbw
    have hmle : m ≤ 1000000 := by rw [← hm]; exact Nat.le_trans (flatten_take_le ls j) hsz
    clear hm htw how hbw
    obtain ⟨a0, a1, a2, a3⟩ := HTW.out.cells
    by_cases hlt : j < n
    · obtain ⟨u, hu⟩ : ∃ u, xs[j]? = some u := ⟨_, List.getElem?_eq_getElem (by rw [HN.out]; exact hlt)⟩
      obtain ⟨l, hl⟩ : ∃ l, ls[j]? = some l := ⟨_, List.getElem?_eq_getElem (by rw [← HK.out.1, HN.out]; exact hlt)⟩
      obtain ⟨gk, ok, rfl, hgk, hgkR, hck⟩ := HK.out.2.1.resolve_left (fun h => by rw [h] at hu; simp at hu)
      obtain ⟨⟨g, o, N, cap, rfl, hlN, hNc, hcm, hg, hgR, hat, _⟩, hne⟩ := HK.out.2.2 j u l hu hl
      have hN0 : ¬ N = 0 := fun h => hne (List.eq_nil_of_length_eq_zero (by omega))
      have b0 : wr.cell? ⟨gk, ok + j, none⟩ = some (.slice (some ⟨g, o, none⟩) N cap) := (HBW.out.cell (p := ⟨gk, ok + j, none⟩) hgk).trans (hck j _ hu)
      have HCL := hid (AtomsAt.cells ((hat.below HBW.out hg)))
      have HSZ : Hid ((ls.take (j + 1)).flatten.length = m + N) := by show _ = _; rw [flatten_take_succ ls j l hl, List.length_append, HM.out, hlN]
      have HNX : Hid ((ls.take (j + 1)).flatten = (ls.take j).flatten ++ l) := flatten_take_succ ls j l hl
      have hmN : m + N ≤ 1000000 := by rw [← HSZ.out]; exact Nat.le_trans (flatten_take_le ls _) hsz
      have HLN := hid hlN
      clear hat hck hu hl hlN
      have HTD : Hid (Two wr.drew w.heap.size v) := HTW.out
      have HOD : Hid (wr.drew.ownsRow (w.heap.size + 2) 51 4 v m (atRow (ls.take j).flatten)) := HOW.out
      have HCD : Hid (∀ j u, (atRow l)[j]? = some u → wr.drew.cell? ((⟨g, o, none⟩ : Addr).add j) = some u) := HCL.out
      go_wp2_with fail
      go_region_law (refine step_append_own_at rfl (.tmp 15) (.tmp 20) 23 rfl (w.heap.size + 2) 51 i0 (.agg #[.int .i64 0, .int .i64 0, .string ⟨#[]⟩, .int .i64 0]) 4 40 Tryd.underlying23 HHI.out.1 HHI.out.2.1 HHI.out.2.2.1 HHI.out.2.2.2 rfl (by decide) v m (atRow (ls.take j).flatten) (by simp [Act.eval]) HOD.out ⟨g, o, none⟩ N cap (atRow l) (by simp [Act.eval]) (by rw [atRow_length, HLN.out]) HCD.out (atRow_one l) (by unfold maxLen; omega) (by omega) hs2 ?_; intro v' w' h2 h3 h4 h5; rw [← atRow_append] at h2; have hnn : ¬ v' = .slice none 0 0 := (fun e => hN0 (h4.1 e).2); obtain ⟨g', c', rfl, hg1, hg2, hg3, hg4, hg5, _⟩ := own_atoms h2 hnn; have H2 := hid h2; have HT3 := hid (HTD.out.grown h3 (fun k e => by have := own_bl HOW.out k e; omega)); have HB3 := hid (HBW.out.drew.grown h3 (by have := HBW.out.size; exact this) (fun k e => by have := own_bl HOW.out k e; omega)); have hsz3 := h3.size; clear h2 h3 h4 h5 hnn hg5; obtain ⟨d0, d1, d2, d3⟩ := HT3.out.cells)
      all_goals go_wp2
      all_goals
        go_roundw
        case rel => exact ⟨j + 1, _, m + N, by omega, by go_num, HSZ.out, HT3.out.set _, by
          rw [HNX.out]
          exact ownsRow_setCell_below H2.out (by show w.heap.size + 1 < w.heap.size + 2; omega) _, below_set HB3.out _ _ (by omega) _, by simp; have := hsz3; simp at this; omega⟩
        case measure => simp [intOf]; omega
    · obtain rfl : j = n := by omega
      have HALL : Hid ((ls.take j).flatten = ls.flatten) := by show _ = _; rw [List.take_of_length_le (by rw [← HK.out.1, HN.out]; omega)]
      have hcl : ∀ q u, (atRow [⟨kind, 0, ⟨#[]⟩, j⟩])[q]? = some u → (wr.alloc (.cells #[.int .i64 kind, .int .i64 0, .string ⟨#[]⟩, .int .i64 j] 51)).cell? ((⟨wr.heap.size, 0, none⟩ : Addr).add q) = some u := fun q u h => by
        rw [add_none, Nat.zero_add, cell_new_row]
        simpa [atRow] using h
      have HCL := hid hcl
      have HOA := hid (HOW.out.alloc (.cells #[.int .i64 kind, .int .i64 0, .string ⟨#[]⟩, .int .i64 j] 51))
      have HTA : Hid (Two (wr.alloc (.cells #[.int .i64 kind, .int .i64 0, .string ⟨#[]⟩, .int .i64 j] 51)) w.heap.size v) := ⟨(Below.heap_alloc _ _ _ (by omega)).trans HTW.out.1, (Below.heap_alloc _ _ _ (by omega)).trans HTW.out.2⟩
      have HBA := hid (HBW.out.alloc HBW.out.size (.cells #[.int .i64 kind, .int .i64 0, .string ⟨#[]⟩, .int .i64 j] 51))
      clear hcl
      go_wp2_with (at_builtin; refine wpList_append_own_at _ rfl (.tmp 24) (.tmp 29) 23 rfl (w.heap.size + 2) 51 i0 (.agg #[.int .i64 0, .int .i64 0, .string ⟨#[]⟩, .int .i64 0]) 4 40 Tryd.underlying23 HHI.out.1 HHI.out.2.1 HHI.out.2.2.1 HHI.out.2.2.2 rfl (by decide) v m (atRow (ls.take j).flatten) rfl HOA.out ⟨wr.heap.size, 0, none⟩ 1 1 (atRow [⟨kind, 0, ⟨#[]⟩, j⟩]) rfl rfl HCL.out (atRow_one _) (by unfold maxLen; omega) (by omega) (by simp; omega) ?_; intro v' w' h2 h3 h4 h5; rw [← atRow_append, HALL.out] at h2; have hnn : ¬ v' = .slice none 0 0 := (fun e => by have := (h4.1 e).2; omega); obtain ⟨g', c', rfl, hg1, hg2, hg3, hg4, hg5, hg6⟩ := own_atoms h2 hnn; have HG5 := hid hg5; have HG6 := hid hg6; have HT3 := hid (HTA.out.grown h3 (fun k e => by have := own_bl HOW.out k e; omega)); have HB3 := hid (HBA.out.grown h3 (by have := HBA.out.size; exact this) (fun k e => by have := own_bl HOW.out k e; omega)); clear h2 h3 h4 h5 hnn hg5 hg6; obtain ⟨d0, d1, d2, d3⟩ := HT3.out.cells)
      unfold maxLen at hg4
      refine bodyPost_ret (v := .agg #[.slice (some ⟨g', 0, none⟩) (m + 1) c']) (by simp [results, Tryd.results44, go_sem, d0]) rfl ⟨_, rfl, ⟨g', 0, m + 1, c', rfl, ?_, hg3, by omega, by simpa using hg2, by omega, ?_, ?_⟩, ?_⟩
      · rw [List.length_append, ← HALL.out, HM.out]; rfl
      · exact (HG5.out.set (by omega) _).set (by omega) _
      · obtain ⟨cur, h⟩ := HG6.out
        exact ⟨cur, _, (Below.heap_setCell _ _ _ _ (by show _ ≠ _; simp only; omega)).trans ((Below.heap_setCell _ _ _ _ (by show _ ≠ _; simp only; omega)).trans h)⟩
      · exact below_set (below_set HB3.out _ _ (by omega) _) _ _ (by omega) _
end Go.Proofs.YtfookokepnnmoaaDoor
