import Derived.Test.YtpobfklbbkdglaaDoorJVPlA
import Derived.Test.YtpobfklbbkdglaaDoorJVPlB
import Derived.Test.YtpobfklbbkdglaaDoorJVPlC
import Derived.Test.YtpobfklbbkdglaaDoorJVPlD
import Derived.Test.YtpobfklbbkdglaaDoorJVPlE
import Derived.Test.YtpobfklbbkdglaaDoorJBase
namespace Go.Proofs.YtpobfklbbkdglaaDoor
open Go.RowKit
theorem l2Plain_any (x : Nd) (w : World) (ht : x.text.size ≤ maxLen) :
    Calls Tryd.prog 43 #[ndV x] w fun e w' => Says e (PlainNd x) ∧ Below w.heap.size w w' := by
  obtain ⟨k, op, n, t, kids⟩ := x
  have h : Pl1 k := by
    by_cases a : k = 1 ∨ k = 2 ∨ k = 3 ∨ k = 4 ∨ k = 5 ∨ k = 6
    · exact l2Plain_A k a
    · by_cases b : k = 7 ∨ k = 8 ∨ k = 9 ∨ k = 10 ∨ k = 11 ∨ k = 12
      · exact l2Plain_B k b
      · by_cases c : k = 13 ∨ k = 14 ∨ k = 15 ∨ k = 16 ∨ k = 17 ∨ k = 18
        · exact l2Plain_C k c
        · by_cases d : k = 19 ∨ k = 20 ∨ k = 21 ∨ k = 22 ∨ k = 23 ∨ k = 24
          · exact l2Plain_D k d
          · exact l2Plain_E k (by omega)
  exact h op n kids t w ht
end Go.Proofs.YtpobfklbbkdglaaDoor
namespace Go.Proofs.YtpobfklbbkdglaaDoor
open Go.RowKit
set_option maxRecDepth 20000
/-- The five cells of the i-th node. -/
def FiveAt (W : World) (b i : Nat) (x : Nd) : Prop :=
  W.cell? ⟨b, i * 5, none⟩ = some (.int .i64 x.kind) ∧ W.cell? ⟨b, i * 5 + 1, none⟩ = some (.int .i64 x.op) ∧ W.cell? ⟨b, i * 5 + 2, none⟩ = some (.int .i64 x.n) ∧ W.cell? ⟨b, i * 5 + 3, none⟩ = some (.string x.text) ∧ W.cell? ⟨b, i * 5 + 4, none⟩ = some (.int .i64 x.kids)
theorem FiveAt.below {W W' : World} {B b i : Nat} {x : Nd} (h : FiveAt W b i x) (hb : Below B W W') (hB : b < B) : FiveAt W' b i x := by
  obtain ⟨h0, h1, h2, h3, h4⟩ := h
  exact ⟨(hb.cell (p := ⟨b, _, none⟩) hB).trans h0, (hb.cell (p := ⟨b, _, none⟩) hB).trans h1, (hb.cell (p := ⟨b, _, none⟩) hB).trans h2, (hb.cell (p := ⟨b, _, none⟩) hB).trans h3, (hb.cell (p := ⟨b, _, none⟩) hB).trans h4⟩
/-- A list of places: m numbers from place o on in block g, each below N. -/
def PlacesAt (W : World) (g o m N : Nat) (ks : Nat → Nat) : Prop := ∀ i, i < m → W.cell? ⟨g, o + i, none⟩ = some (.int .i64 (ks i)) ∧ ks i < N
theorem PlacesAt.below {W W' : World} {B g o m N : Nat} {ks : Nat → Nat} (h : PlacesAt W g o m N ks) (hb : Below B W W') (hB : g < B) : PlacesAt W' g o m N ks := fun i hi =>
  ⟨(hb.cell (p := ⟨g, _, none⟩) hB).trans (h i hi).1, (h i hi).2⟩
def NodesAt (W : World) (b N : Nat) (nd : Nat → Nd) : Prop := ∀ i, i < N → FiveAt W b i (nd i)
theorem NodesAt.below {W W' : World} {B b N : Nat} {nd : Nat → Nd} (h : NodesAt W b N nd) (hb : Below B W W') (hB : b < B) : NodesAt W' b N nd := fun i hi => (h i hi).below hb hB
theorem btree {w wr : World} {X : Obj} (h : Below (w.heap.size + 1) (w.alloc X) wr) : Below w.heap.size w wr :=
  Below.trans ((Below.refl w.heap.size w).alloc (Nat.le_refl _) X) (h.mono (B' := w.heap.size) (Nat.le_succ _))
theorem tree_cell {w wr : World} {v : Value} {t : TypeId} (h : Below (w.heap.size + 1) (w.alloc (.cells #[v] t)) wr) : wr.cell? ⟨w.heap.size, 0, none⟩ = some v := by
  rw [h.cell (p := ⟨w.heap.size, 0, none⟩) (Nat.lt_succ_self _), cell_new_row]; rfl
set_option maxHeartbeats 1000000 in
theorem l2Apart_any (b N cap g o m c : Nat) (nd : Nat → Nd) (ks : Nat → Nat) (w : World) (hm : m ≤ 1000000) (hb : b < w.heap.size) (hg : g < w.heap.size) (hn : NodesAt w b N nd) (hk : PlacesAt w g o m N ks) :
    Calls Tryd.prog 66 #[.agg #[.slice (some ⟨b, 0, none⟩) N cap], .slice (some ⟨g, o, none⟩) m c] w fun e w' => Says e (Apart m (fun i => nd (ks i))) ∧ Below w.heap.size w w' := by
  have HN := hid hn
  have HK := hid hk
  clear hn hk
  go_enter Tryd.func66, Tryd.ntmps66
  go_wp2
  go_loopw [5] (fun i wr => ∃ j : Nat, j ≤ m ∧ i = .int .i64 j ∧ Apart j (fun i => nd (ks i)) ∧ Below (w.heap.size + 1) (w.alloc (.cells #[.slice (some ⟨b, 0, none⟩) N cap] 31)) wr) (fun i _ => m - (intOf i).toNat)
  case atStart => exact ⟨0, Nat.zero_le _, rfl, fun i h => absurd h (Nat.not_lt_zero _), Below.refl _ _⟩
  case round =>
    obtain ⟨j, hj, rfl, hap, hbw⟩ := hrel
    have HAP := hid hap
    have HBW := hid hbw
    clear hap hbw
    by_cases hlt : j < m
    · go_wp2
      go_loopw [6] (fun i wr => ∃ q : Nat, q ≤ j ∧ i = .int .i64 q ∧ (∀ i, i < q → ¬ (nd (ks i)).text = (nd (ks j)).text) ∧ Below (w.heap.size + 1) (w.alloc (.cells #[.slice (some ⟨b, 0, none⟩) N cap] 31)) wr) (fun i _ => j - (intOf i).toNat)
      case atStart => exact ⟨0, Nat.zero_le _, rfl, fun i h => absurd h (Nat.not_lt_zero _), HBW.out⟩
      case round =>
        rename_i wo wr
        obtain ⟨q, hq, rfl, hin, hbw⟩ := hrel
        have HQ := hid hin
        have HB2 := hid hbw
        clear hin hbw
        by_cases hl2 : q < j
        · have t0 := tree_cell HB2.out
          have HNr := HN.out.below (btree HB2.out) hb
          have HKr := HK.out.below (btree HB2.out) hg
          obtain ⟨a0, a1⟩ := HKr q (Nat.lt_trans hl2 hlt)
          obtain ⟨b0, b1⟩ := HKr j hlt
          obtain ⟨_, _, _, a2, _⟩ := HNr (ks q) a1
          obtain ⟨_, _, _, b2, _⟩ := HNr (ks j) b1
          have HNr2 := hid HNr
          have HKr2 := hid HKr
          clear HNr HKr
          cases ht : ((nd (ks q)).text.toList == (nd (ks j)).text.toList)
          · have HNE : Hid (¬ (nd (ks q)).text = (nd (ks j)).text) := fun h => by rw [h] at ht; simp at ht
            go_wp2
            go_region
            go_wp2
            go_roundw
            case rel => exact ⟨q + 1, by omega, by go_num, fun i hi => by
              rcases Nat.lt_or_eq_of_le (Nat.lt_succ_iff.1 hi) with h | h
              · exact HQ.out i h
              · subst h; exact HNE.out, HB2.out.drew⟩
            case measure => simp [intOf]; omega
          · have HEQ : Hid ((nd (ks q)).text = (nd (ks j)).text) := bytes_eq ht
            go_wp2
            go_region
            go_wp2
            go_ret
            exact ⟨says_f (fun h => h j hlt q hl2 HEQ.out), (btree HB2.out).drew⟩
        · go_wp2
          go_roundw
          case rel => exact ⟨j + 1, by omega, by go_num, fun i hi k hk => by
            rcases Nat.lt_or_eq_of_le (Nat.lt_succ_iff.1 hi) with h | h
            · exact HAP.out i h k hk
            · subst h; exact HQ.out k (by omega), HB2.out⟩
          case measure => simp [intOf]; omega
    · go_wp2
      go_ret
      obtain rfl : j = m := by omega
      exact ⟨says_t HAP.out, btree HBW.out⟩
end Go.Proofs.YtpobfklbbkdglaaDoor
