import Derived.Test.YtpobfklbbkdglaaDoorJInts
import Derived.Test.YtpobfklbbkdglaaDoorJEnds
import Derived.Test.YtpobfklbbkdglaaDoorJSMakes
namespace Go.Proofs.YtpobfklbbkdglaaDoor
open Go.RowKit
theorem IntsA.lt {W : World} {ad : Option Addr} {M : Nat} {bn : Nat → Int} (h : IntsA W ad M bn) (hM : M ≠ 0) (g : Nat) (e : ad = some ⟨g, 0, none⟩) : g < W.heap.size := by
  rcases h with h | ⟨g', cur, e', h1, _⟩
  · exact absurd h hM
  · rw [e] at e'
    injection e' with e'
    injection e' with e'
    subst e'
    exact (Array.getElem?_eq_some_iff.1 h1).1
theorem IntsA.next {W W' : World} {ad : Option Addr} {M : Nat} {bn : Nat → Int} (h : IntsA W ad M bn) (hb : Below W.heap.size W W') : IntsA W' ad M bn := by
  rcases h with h | ⟨g, cur, rfl, h1, h2⟩
  · exact .inl h
  · exact .inr ⟨g, cur, rfl, (hb.block g (Array.getElem?_eq_some_iff.1 h1).1).trans h1, h2⟩
theorem IntsA.sv2 {S : Nat → Prop} {W W' : World} {ad : Option Addr} {M : Nat} {bn : Nat → Int} (h : IntsA W ad M bn) (hb : Sv S W W') (hS : M ≠ 0 → ∀ g, ad = some ⟨g, 0, none⟩ → ¬ S g) : IntsA W' ad M bn := by
  by_cases hM : M = 0
  · exact .inl hM
  · exact h.sv hb (hS hM)
theorem Filling.next {W W' : World} {g N j : Nat} {nd : Nat → Nd} (h : Filling W g N j nd) (hb : Below W.heap.size W W') : Filling W' g N j nd := by
  obtain ⟨⟨cur, h1, h2⟩, h3⟩ := h
  have hl := (Array.getElem?_eq_some_iff.1 h1).1
  exact ⟨⟨cur, (hb.block g hl).trans h1, h2⟩, h3.below hb hl⟩
theorem markInts_any {ad : Option Addr} {M : Nat} {bn : Nat → Int} {w : World} (c : Nat) (hM : M ≤ 1048576) (h : IntsA w ad M bn) :
    Calls Tryd.prog 17 #[.slice ad M c, .int .i64 1] w fun e w' => e = .returned (.int .i64 (1 + M : Nat)) ∧ Sv (fun k => M ≠ 0 ∧ ad = some ⟨k, 0, none⟩) w w' ∧ IntsA w' ad M (fun i => ((1 + i : Nat) : Int)) := by
  rcases h with rfl | ⟨g, cur, rfl, h1, h2⟩
  · refine (markInts_nil ad c w).mono ?_
    rintro e w' ⟨rfl, rfl⟩
    exact ⟨rfl, Sv.refl _ _, .inl rfl⟩
  · by_cases h0 : M = 0
    · subst h0
      refine (markInts_nil _ c w).mono ?_
      rintro e w' ⟨rfl, rfl⟩
      exact ⟨rfl, Sv.refl _ _, .inl rfl⟩
    · have hs : M ≤ cur.size := by
        have := (Array.getElem?_eq_some_iff.1 (h2 (M - 1) (by omega))).1
        omega
      refine (markInts_row g M c w hM cur h1 hs).mono ?_
      rintro e w' ⟨rfl, hsv, cur', h3, h4⟩
      refine ⟨rfl, ⟨hsv.os, hsv.tape, hsv.output, hsv.size, fun k hk hn => hsv.block k hk fun e => hn ⟨h0, by rw [e]⟩⟩, .inr ⟨g, cur', rfl, h3, h4⟩⟩
theorem heldInts_any {ad : Option Addr} {M : Nat} {w : World} (c : Nat) (hM : M ≤ 1048576) (h : IntsA w ad M (fun i => ((1 + i : Nat) : Int))) :
    Calls Tryd.prog 18 #[.slice ad M c, .int .i64 1] w fun e w' => e = .returned (.int .i64 (1 + M : Nat)) ∧ Below w.heap.size w w' := by
  rcases h with rfl | ⟨g, cur, rfl, h1, h2⟩
  · refine (heldInts_nil ad c w).mono ?_
    rintro e w' ⟨rfl, rfl⟩
    exact ⟨rfl, Below.refl _ _⟩
  · exact heldInts_row g M c w hM fun i hi => (cell_hp h1 i).trans (h2 i hi)
end Go.Proofs.YtpobfklbbkdglaaDoor
namespace Go.Proofs.YtpobfklbbkdglaaDoor
open Go.RowKit
set_option maxRecDepth 20000
def isLoc (nd : Nat → Nd) (i : Nat) : Bool := decide ((nd i).kind = 14 ∨ (nd i).kind = 16)
def locs (nd : Nat → Nd) (n : Nat) : List Nat := (List.range n).filter (isLoc nd)
theorem locs_yes {nd : Nat → Nd} {n : Nat} (h : isLoc nd n = true) : locs nd (n + 1) = locs nd n ++ [n] := by
  unfold locs
  rw [List.range_succ, List.filter_append]
  simp [h]
theorem locs_no {nd : Nat → Nd} {n : Nat} (h : isLoc nd n = false) : locs nd (n + 1) = locs nd n := by
  unfold locs
  rw [List.range_succ, List.filter_append]
  simp [h]
theorem locs_len (nd : Nat → Nd) (n : Nat) : (locs nd n).length ≤ n := by
  have := List.length_filter_le (isLoc nd) (List.range n)
  rw [List.length_range] at this
  exact this
theorem ints_of_own {W : World} {B n : Nat} {v : Value} {L : List Nat} (h : W.ownsRow B 3 1 v n (intRow L)) (hL : L.length = n) : ∃ ad c, v = .slice ad n c ∧ IntsA W ad n (fun i => ((L.getD i 0 : Nat) : Int)) ∧ (n ≠ 0 → ∃ g, ad = some ⟨g, 0, none⟩ ∧ B ≤ g) := by
  obtain ⟨_, ⟨rfl, rfl⟩ | ⟨g, cap, cur, rfl, hg, hh, hn, _, hs, ht⟩⟩ := h
  · exact ⟨none, 0, rfl, .inl rfl, fun h => absurd rfl h⟩
  · refine ⟨some ⟨g, 0, none⟩, cap, rfl, .inr ⟨g, cur, rfl, hh, fun i hi => ?_⟩, fun _ => ⟨g, rfl, hg⟩⟩
    have e : (cur.toList.take (n * 1))[i]? = (intRow L)[i]? := by rw [ht]
    rw [List.getElem?_take_of_lt (by omega), Array.getElem?_toList] at e
    rw [e]
    unfold intRow
    show _ = some (Value.int .i64 ((L.getD i 0 : Nat) : Int))
    rw [List.getElem?_map, List.getD_eq_getElem?_getD, List.getElem?_eq_getElem (by omega)]
    rfl
/-- What is told of the places that make names inside. -/
def LocI (nd : Nat → Nd) (N M : Nat) (bn : Nat → Int) : Prop := (M = 0 ∧ ¬ FaultI nd N 0 0) ∨ (FaultI nd N 0 0 ∧ M = (locs nd N).length ∧ bn = fun i => (((locs nd N).getD i 0 : Nat) : Int))
theorem LocI.unique {nd : Nat → Nd} {N M M' : Nat} {bn bn' : Nat → Int} (h : LocI nd N M bn) (h' : LocI nd N M' bn') : M = M' ∧ (M ≠ 0 → bn = bn') := by
  rcases h with ⟨rfl, h⟩ | ⟨hf, rfl, rfl⟩
  · rcases h' with ⟨rfl, _⟩ | ⟨h', _⟩
    · exact ⟨rfl, fun h => absurd rfl h⟩
    · exact absurd h' h
  · rcases h' with ⟨rfl, h'⟩ | ⟨_, rfl, rfl⟩
    · exact absurd hf h'
    · exact ⟨rfl, fun _ => rfl⟩
theorem faultI_code {nd : Nat → Nd} {N : Nat} {a : Int} (h : FaultI nd N 0 a) : FaultI nd N 0 0 := by
  rcases h with ⟨_, h, _⟩ | ⟨o, x, hv, ho, ⟨k, d, r, _, hd, h, _⟩ | ⟨h, _⟩⟩
  · omega
  · omega
  · exact .inr ⟨o, x, hv, ho, .inr ⟨h, rfl, rfl⟩⟩
set_option maxHeartbeats 2000000 in
theorem specLocals_any (b N cap : Nat) (nd : Nat → Nd) (w : World) (hN : N ≤ 1048576) (hb : b < w.heap.size) (hn : NodesAt w b N nd) (hx : ∀ i, i < N → (nd i).text.size ≤ maxLen) :
    Calls Tryd.prog 22 #[.agg #[.slice (some ⟨b, 0, none⟩) N cap]] w fun e w' => (∃ ad M c bn, e = .returned (.slice ad M c) ∧ IntsA w' ad M bn ∧ LocI nd N M bn ∧ M ≤ N ∧ (M ≠ 0 → ∃ g, ad = some ⟨g, 0, none⟩ ∧ w.heap.size ≤ g)) ∧ Below w.heap.size w w' := by
  have HN := hid hn
  have HX := hid hx
  obtain ⟨i0, hi, hz0, hz1, hz2⟩ := info_parts info_int
  have HHI := hid (And.intro hi (And.intro hz0 (And.intro hz1 hz2)))
  clear hi hz0 hz1 hz2 hn hx
  have HA : Hid (Below (w.heap.size + 1) (w.alloc (.cells #[.slice (some ⟨b, 0, none⟩) N cap] 31)) ((w.alloc (.cells #[.slice (some ⟨b, 0, none⟩) N cap] 31)).alloc (.cells #[] 3))) := (Below.refl _ _).alloc (by simp) _
  have O0 : Hid (World.ownsRow ((w.alloc (.cells #[.slice (some ⟨b, 0, none⟩) N cap] 31)).alloc (.cells #[] 3)) (w.heap.size + 1) 3 1 (.slice (some ⟨w.heap.size + 1, 0, none⟩) 0 0) 0 []) := by
    have := World.ownsRow_made (base := w.heap.size + 1) (e := 3) (size := 1) (w.alloc (.cells #[.slice (some ⟨b, 0, none⟩) N cap] 31)) #[] 0 (by simp) (by unfold maxLen; omega) rfl
    rw [World.size_alloc] at this
    exact this
  go_enter Tryd.func22, Tryd.ntmps22
  go_wp2_with fail
  refine (specFits_any b N cap nd _ hN (by simp; omega) (HN.out.below (btree HA.out) hb) HX.out).mono ?_
  rintro e w1 ⟨⟨c, a, rfl, hc⟩, hb1⟩
  have HC := hid hc
  have HB1 := hid (HA.out.trans (hb1.mono (by simp)))
  have O1 : Hid (World.ownsRow w1 (w.heap.size + 1) 3 1 (.slice (some ⟨w.heap.size + 1, 0, none⟩) 0 0) 0 []) := own_keep O0.out fun r hr => hb1.block r (own_lt O0.out hr).2
  clear hc hb1 O0
  by_cases h0 : c = 0
  · subst h0
    have HF0 := hid (faultI_code HC.out)
    rw [decide_eq_true rfl]
    go_wp2
    go_loopw [3, 4] (fun vo i wr => ∃ (j : Nat) (g c : Nat), j ≤ N ∧ i = .int .i64 j ∧ vo = .slice (some ⟨g, 0, none⟩) (locs nd j).length c ∧ World.ownsRow wr (w.heap.size + 1) 3 1 vo (locs nd j).length (intRow (locs nd j)) ∧ Below (w.heap.size + 1) (w.alloc (.cells #[.slice (some ⟨b, 0, none⟩) N cap] 31)) wr) (fun _ i _ => N - (intOf i).toNat)
    case atStart => exact ⟨0, w.heap.size + 1, 0, Nat.zero_le _, rfl, rfl, O1.out, HB1.out⟩
    case round =>
      obtain ⟨j, g, c, hj, rfl, rfl, hown, hbw⟩ := hrel
      have HO := hid hown
      have HBW := hid hbw
      have t0 := tree_cell hbw
      have HB := hid (btree hbw)
      have hsz2 := hbw.size
      have hlen := locs_len nd j
      clear hown hbw O1 HB1
      by_cases hlt : j < N
      · obtain ⟨a0, a1, a2, a3, a4⟩ := (HN.out.below HB.out hb) j hlt
        clear a1 a2 a3 a4
        obtain ⟨nm, hnm⟩ : ∃ nm, (locs nd j).length = nm := ⟨_, rfl⟩
        have HNM := hid hnm
        rw [hnm] at hlen HO ⊢
        clear hnm
        by_cases hl : isLoc nd j = true
        · have HLY := hid (locs_yes hl)
          have hk : (nd j).kind = 14 ∨ (nd j).kind = 16 := by simpa [isLoc] using hl
          clear hl
          rcases hk with hk | hk
          all_goals
            rw [hk] at a0
            clear hk
            go_wp2_with (at_builtin; refine wpList_append_own_at _ rfl (.tmp 33) (.tmp 35) 36 rfl (w.heap.size + 1) 3 i0 (.int .i64 0) 1 8 Tryd.underlying36 HHI.out.1 HHI.out.2.1 HHI.out.2.2.1 HHI.out.2.2.2 rfl (by decide) (.slice (some ⟨g, 0, none⟩) nm c) _ _ rfl (own_two HO.out _) ⟨wr.heap.size, 0, none⟩ 1 1 [.int .i64 j] rfl rfl (cell_one_new wr _ _) (by simp [Value.oneCell']) (by unfold maxLen; omega) (by omega) (by simp at hsz2 ⊢; omega) ?_; intro v5 w5 o5 g5 nn5 b5; have O5 := hid o5; have G5 := hid g5; have NN5 := hid (some_not_nil nn5); clear o5 g5 nn5 b5)
            obtain ⟨g6, c6, rfl, hb6⟩ := own_not_nil O5.out NN5.out
            have HB5 : Hid (Below (w.heap.size + 1) (w.alloc (.cells #[.slice (some ⟨b, 0, none⟩) N cap] 31)) w5) := (HBW.out.alloc (by simp at hsz2 ⊢; omega) _).grown G5.out (by simp at hsz2 ⊢; omega) (fun q e => by simp [Value.ownBlock] at e; have := own_lt HO.out (r := g) rfl; omega)
            clear G5 NN5
            go_wp2
            go_roundw
            case rel =>
              refine ⟨j + 1, g6, c6, by omega, by go_num, ?_, ?_, HB5.out⟩
              · rw [HLY.out, List.length_append, HNM.out]; rfl
              · rw [HLY.out, List.length_append, HNM.out, intRow_append]
                exact O5.out
            case measure => simp [intOf]; omega
        · have HLY := hid (locs_no (by simpa using hl))
          have h14 : ¬ (nd j).kind = 14 := fun e => hl (by simp [isLoc, e])
          have h16 : ¬ (nd j).kind = 16 := fun e => hl (by simp [isLoc, e])
          have e14 : ((nd j).kind == 14) = false := by simp [h14]
          have e16 : ((nd j).kind == 16) = false := by simp [h16]
          clear hl
          go_wp2
          go_roundw
          case rel => exact ⟨j + 1, g, c, by omega, by go_num, by rw [HLY.out, HNM.out], by rw [HLY.out, HNM.out]; exact HO.out, HBW.out⟩
          case measure => simp [intOf]; omega
      · obtain rfl : j = N := by omega
        go_wp2
        go_ret
        obtain ⟨ad, c', e, h1, h2⟩ := ints_of_own HO.out rfl
        exact ⟨⟨_, _, c, _, rfl, by cases e; exact h1, .inr ⟨HF0.out, rfl, rfl⟩, hlen, fun h => by cases e; obtain ⟨g', e1, e2⟩ := h2 h; exact ⟨g', e1, by omega⟩⟩, HB.out⟩
  · rw [decide_eq_false h0]
    have HNF : Hid (¬ FaultI nd N 0 0) := fun h => h0 (HC.out.unique h).1
    go_wp2
    go_ret
    exact ⟨⟨_, 0, _, fun _ => 0, rfl, .inl rfl, .inl ⟨rfl, HNF.out⟩, Nat.zero_le _, fun h => absurd rfl h⟩, btree HB1.out⟩
set_option maxHeartbeats 1000000 in
theorem isLocal_any (y : Nd) (w : World) :
    Calls Tryd.prog 36 #[.agg #[.int .i64 y.kind, .int .i64 y.op, .int .i64 y.n, .string y.text, .int .i64 y.kids]] w fun e w' => e = .returned (.bool (decide (y.kind = 14 ∨ y.kind = 16))) ∧ Below w.heap.size w w' := by
  have HB : Hid (∀ O, Below w.heap.size w (w.alloc O)) := fun O => (Below.refl w.heap.size w).alloc (Nat.le_refl _) O
  by_cases h14 : y.kind = 14
  · rw [decide_eq_true (.inl h14), h14]
    go_enter Tryd.func36, Tryd.ntmps36
    go_wp2
    go_ret
    exact ⟨rfl, HB.out _⟩
  · by_cases h16 : y.kind = 16
    · rw [decide_eq_true (.inr h16), h16]
      go_enter Tryd.func36, Tryd.ntmps36
      go_wp2
      go_ret
      exact ⟨rfl, HB.out _⟩
    · rw [decide_eq_false (by rintro (h | h); exact h14 h; exact h16 h)]
      have e14 : (y.kind == 14) = false := by simp [h14]
      have e16 : (y.kind == 16) = false := by simp [h16]
      go_enter Tryd.func36, Tryd.ntmps36
      go_wp2
      go_ret
      exact ⟨by simp, HB.out _⟩
set_option maxHeartbeats 2000000 in
theorem implLocals_any (b N cap : Nat) (nd : Nat → Nd) (w : World) (hN : N ≤ 1048576) (hb : b < w.heap.size) (hn : NodesAt w b N nd) (hx : ∀ i, i < N → (nd i).text.size ≤ maxLen) (hE : BEnv w) :
    Calls Tryd.prog 23 #[.agg #[.slice (some ⟨b, 0, none⟩) N cap]] w fun e w' => (∃ ad M c bn, e = .returned (.slice ad M c) ∧ IntsA w' ad M bn ∧ LocI nd N M bn ∧ (M ≠ 0 → ∃ g, ad = some ⟨g, 0, none⟩ ∧ w.heap.size ≤ g) ∧ M ≤ N) ∧ Below w.heap.size w w' := by
  have HN := hid hn
  have HX := hid hx
  have HE := hid hE
  obtain ⟨i0, hi, hz0, hz1, hz2⟩ := info_parts info_int
  have HHI := hid (And.intro hi (And.intro hz0 (And.intro hz1 hz2)))
  clear hi hz0 hz1 hz2 hn hx hE
  have HA : Hid (Below (w.heap.size + 1) (w.alloc (.cells #[.slice (some ⟨b, 0, none⟩) N cap] 31)) (w.alloc (.cells #[.slice (some ⟨b, 0, none⟩) N cap] 31))) := Below.refl _ _
  go_enter Tryd.func23, Tryd.ntmps23
  go_wp2_with fail
  refine (implCheck_any b N cap nd _ hN (by simp; omega) (HN.out.below (btree HA.out) hb) HX.out (HE.out.below (btree HA.out) HE.out.pos)).mono ?_
  rintro e w1 ⟨⟨c, a, rfl, hc⟩, hb1⟩
  have HC := hid hc
  have HB1 := hid (HA.out.trans (hb1.mono (by simp)))
  have t1 := tree_cell HB1.out
  have hfc := field_code c a w1
  clear hc hb1
  by_cases h0 : c = 0
  · subst h0
    have HF0 := hid (faultI_code HC.out)
    go_wp2
    clear hfc
    go_loopw [3, 13] (fun vo i wr => ∃ (j : Nat), j ≤ N ∧ i = .int .i64 j ∧ World.ownsRow wr (w.heap.size + 1) 3 1 vo (locs nd j).length (intRow (locs nd j)) ∧ Below (w.heap.size + 1) (w.alloc (.cells #[.slice (some ⟨b, 0, none⟩) N cap] 31)) wr) (fun _ i _ => N - (intOf i).toNat)
    case atStart => exact ⟨0, Nat.zero_le _, rfl, ⟨rfl, .inl ⟨rfl, rfl⟩⟩, HB1.out⟩
    case round =>
      obtain ⟨j, hj, rfl, hown, hbw⟩ := hrel
      obtain ⟨ad, c', rfl, -, -⟩ := ints_of_own hown rfl
      have HO := hid hown
      have HBW := hid hbw
      have HB := hid (btree hbw)
      have hsz2 := hbw.size
      have hlen := locs_len nd j
      clear hown hbw HB1
      by_cases hlt : j < N
      · obtain ⟨a0, a1, a2, a3, a4⟩ := (HN.out.below HB.out hb) j hlt
        obtain ⟨nm, hnm⟩ : ∃ nm, (locs nd j).length = nm := ⟨_, rfl⟩
        have HNM := hid hnm
        rw [hnm] at hlen HO ⊢
        clear hnm
        go_wp2_with fail
        refine (isLocal_any (nd j) _).mono ?_
        rintro e w2 ⟨rfl, hb2⟩
        have HB2 := hid (HBW.out.trans (((Below.refl wr.heap.size wr).alloc (Nat.le_refl _) _).trans (hb2.mono (by simp)) |>.mono (by simp at hsz2; omega)))
        have HO2 : Hid (World.ownsRow w2 (w.heap.size + 1) 3 1 (.slice ad nm c') nm (intRow (locs nd j))) := own_keep HO.out fun r hr => (hb2.block r (by have := (own_lt HO.out hr).2; rw [World.size_alloc]; omega)).trans (Below.heap_alloc _ _ _ (own_lt HO.out hr).2)
        have hsz3 := HB2.out.size
        clear hb2 HO HBW
        by_cases hl : isLoc nd j = true
        · have HLY := hid (locs_yes hl)
          have hk : decide ((nd j).kind = 14 ∨ (nd j).kind = 16) = true := hl
          rw [hk]
          clear hk hl
          go_wp2_with (at_builtin; refine wpList_append_own_at _ rfl (.tmp 20) (.tmp 22) 36 rfl (w.heap.size + 1) 3 i0 (.int .i64 0) 1 8 Tryd.underlying36 HHI.out.1 HHI.out.2.1 HHI.out.2.2.1 HHI.out.2.2.2 rfl (by decide) (.slice ad nm c') _ _ rfl (own_two HO2.out _) ⟨w2.heap.size, 0, none⟩ 1 1 [.int .i64 j] rfl rfl (cell_one_new w2 _ _) (by simp [Value.oneCell']) (by unfold maxLen; omega) (by omega) (by simp at hsz3 ⊢; omega) ?_; intro v5 w5 o5 g5 nn5 b5; have O5 := hid o5; have G5 := hid g5; clear o5 g5 nn5 b5)
          have HB5 : Hid (Below (w.heap.size + 1) (w.alloc (.cells #[.slice (some ⟨b, 0, none⟩) N cap] 31)) w5) := (HB2.out.alloc (by simp at hsz3 ⊢; omega) _).grown G5.out (by simp at hsz3 ⊢; omega) (fun q e => (own_lt HO2.out e).1)
          clear G5
          go_wp2
          go_roundw
          case rel => exact ⟨j + 1, by omega, by go_num, by rw [HLY.out, List.length_append, HNM.out, intRow_append]; exact O5.out, HB5.out⟩
          case measure => simp [intOf]; omega
        · have HLY := hid (locs_no (by simpa using hl))
          have hk : decide ((nd j).kind = 14 ∨ (nd j).kind = 16) = false := by simpa [isLoc] using hl
          rw [hk]
          clear hk hl
          go_wp2
          go_roundw
          case rel => exact ⟨j + 1, by omega, by go_num, by rw [HLY.out, HNM.out]; exact HO2.out, HB2.out⟩
          case measure => simp [intOf]; omega
      · obtain rfl : j = N := by omega
        obtain ⟨ad2, c2, e2, h1, h2⟩ := ints_of_own HO.out rfl
        cases e2
        have H1 := hid h1
        have H2 := hid h2
        clear h1 h2
        go_wp2
        go_ret
        exact ⟨⟨ad, _, c', _, rfl, H1.out, .inr ⟨HF0.out, rfl, rfl⟩, fun h => by obtain ⟨g', e1, e2⟩ := H2.out h; exact ⟨g', e1, by omega⟩, hlen⟩, HB.out⟩
  · have HNF : Hid (¬ FaultI nd N 0 0) := fun h => h0 (HC.out.unique h).1
    go_wp2
    go_ret
    exact ⟨⟨_, 0, _, fun _ => 0, rfl, .inl rfl, .inl ⟨rfl, HNF.out⟩, fun h => absurd rfl h, Nat.zero_le _⟩, btree HB1.out⟩
end Go.Proofs.YtpobfklbbkdglaaDoor
