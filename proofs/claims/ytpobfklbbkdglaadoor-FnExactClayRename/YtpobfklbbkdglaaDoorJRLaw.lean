import Derived.Deep.RegionHeld3
import Derived.Test.YtpobfklbbkdglaaDoorJRBase
import Derived.Test.YtpobfklbbkdglaaDoorJRImpl
namespace Go.Proofs.YtpobfklbbkdglaaDoor
open Go.RowKit
set_option maxRecDepth 20000
set_option maxHeartbeats 1000000 in
theorem eqNodes_caps (g1 g2 N c1 c2 : Nat) (nd : Nat → Nd) (w : World) (hN : N ≤ 1048576) (hl1 : g1 < w.heap.size) (hl2 : g2 < w.heap.size) (h1 : NodesAt w g1 N nd) (h2 : NodesAt w g2 N nd) :
    Calls Tryd.prog 29 #[.slice (some ⟨g1, 0, none⟩) N c1, .slice (some ⟨g2, 0, none⟩) N c2] w fun e w' => e = .returned (.bool true) ∧ Below w.heap.size w w' := by
  have H1 := hid h1
  have H2 := hid h2
  clear h1 h2
  have hne : ((N : Int) != (N : Int)) = false := by simp
  go_enter Tryd.func29, Tryd.ntmps29
  go_wp2
  go_loopw [5] (fun i wr => ∃ j : Nat, j ≤ N ∧ i = .int .i64 j ∧ Below w.heap.size w wr) (fun i _ => N - (intOf i).toNat)
  case atStart => exact ⟨0, Nat.zero_le _, rfl, Below.refl _ _⟩
  case round =>
    obtain ⟨j, hj, rfl, hbw⟩ := hrel
    have HBW := hid hbw
    clear hbw
    by_cases hlt : j < N
    · have F1 : ∀ p : Gr wr, FiveAt p.W g1 j (nd j) := fun p => (H1.out.below (HBW.out.trans (p.h.mono HBW.out.size)) hl1) j hlt
      have F2 : ∀ p : Gr wr, FiveAt p.W g2 j (nd j) := fun p => (H2.out.below (HBW.out.trans (p.h.mono HBW.out.size)) hl2) j hlt
      have a0 := fun p : Gr wr => (F1 p).1
      have a1 := fun p : Gr wr => (F1 p).2.1
      have a2 := fun p : Gr wr => (F1 p).2.2.1
      have a3 := fun p : Gr wr => (F1 p).2.2.2.1
      have a4 := fun p : Gr wr => (F1 p).2.2.2.2
      have b0 := fun p : Gr wr => (F2 p).1
      have b1 := fun p : Gr wr => (F2 p).2.1
      have b2 := fun p : Gr wr => (F2 p).2.2.1
      have b3 := fun p : Gr wr => (F2 p).2.2.2.1
      have b4 := fun p : Gr wr => (F2 p).2.2.2.2
      clear F1 F2
      go_wp2_with fail
      have hne2 : Nonempty (Gr wr) := ⟨⟨wr, Below.refl _ _⟩⟩
      refine wp_region_gr (by kernel_rfl) (by kernel_rfl) ?_
      repeat (quiet_step (first | (go_at_call 53; refine Calls.gr_of (v := .bool true) fun _ => ?_; exact eqNode_same (nd j) _)))
      refine wpQuiet_nil ?_
      intro _ hw'
      obtain ⟨pw, rfl⟩ := hw'
      have HB4 := hid (HBW.out.trans (pw.h.mono HBW.out.size))
      clear a0 a1 a2 a3 a4 b0 b1 b2 b3 b4
      go_wp2
      go_roundw
      case rel => exact ⟨j + 1, by omega, by go_num, HB4.out⟩
      case measure => simp [intOf]; omega
    · obtain rfl : j = N := by omega
      go_wp2
      go_ret
      exact ⟨rfl, HBW.out⟩
set_option maxHeartbeats 1000000 in
theorem eqNodes_nil (a1 a2 : Option Addr) (c1 c2 : Nat) (w : World) :
    Calls Tryd.prog 29 #[.slice a1 0 c1, .slice a2 0 c2] w fun e w' => e = .returned (.bool true) ∧ w' = w := by
  go_enter Tryd.func29, Tryd.ntmps29
  go_wp2
  go_loop [5] (fun i => i = .int .i64 0) (fun _ => 0)
  case atStart => exact rfl
  case round =>
    subst hrel
    go_wp2
    go_ret
    exact ⟨rfl, rfl⟩
/-- A row of nodes that is read. -/
def NodesB (W : World) (ad : Option Addr) (M : Nat) (f : Nat → Nd) : Prop := M = 0 ∨ ∃ g, ad = some ⟨g, 0, none⟩ ∧ g < W.heap.size ∧ NodesAt W g M f
theorem NodesB.next {W W' : World} {ad : Option Addr} {M : Nat} {f : Nat → Nd} (h : NodesB W ad M f) (hb : Below W.heap.size W W') : NodesB W' ad M f := by
  rcases h with h | ⟨g, e, h1, h2⟩
  · exact .inl h
  · exact .inr ⟨g, e, Nat.lt_of_lt_of_le h1 hb.size, h2.below hb h1⟩
theorem NodesB.sv {S : Nat → Prop} {W W' : World} {ad : Option Addr} {M : Nat} {f : Nat → Nd} (h : NodesB W ad M f) (hb : Sv S W W') (hS : M ≠ 0 → ∀ g, ad = some ⟨g, 0, none⟩ → ¬ S g) : NodesB W' ad M f := by
  rcases h with h | ⟨g, e, h1, h2⟩
  · exact .inl h
  · by_cases h0 : M = 0
    · exact .inl h0
    · have hn := hS h0 g e
      refine .inr ⟨g, e, Nat.lt_of_lt_of_le h1 hb.size, fun i hi => ?_⟩
      obtain ⟨d0, d1, d2, d3, d4⟩ := h2 i hi
      exact ⟨(hb.cell (p := ⟨g, _, none⟩) h1 hn).trans d0, (hb.cell (p := ⟨g, _, none⟩) h1 hn).trans d1, (hb.cell (p := ⟨g, _, none⟩) h1 hn).trans d2, (hb.cell (p := ⟨g, _, none⟩) h1 hn).trans d3, (hb.cell (p := ⟨g, _, none⟩) h1 hn).trans d4⟩
theorem NodesB.lt {W : World} {ad : Option Addr} {M : Nat} {f : Nat → Nd} (h : NodesB W ad M f) (h0 : M ≠ 0) (g : Nat) (e : ad = some ⟨g, 0, none⟩) : g < W.heap.size := by
  rcases h with h | ⟨g', e', h1, _⟩
  · exact absurd h h0
  · rw [e] at e'
    injection e' with e'
    injection e' with e'
    subst e'
    exact h1
theorem eqNodes_gen {a1 a2 : Option Addr} {M : Nat} {f : Nat → Nd} {w : World} (c1 c2 : Nat) (hM : M ≤ 1048576) (h1 : NodesB w a1 M f) (h2 : NodesB w a2 M f) :
    Calls Tryd.prog 29 #[.slice a1 M c1, .slice a2 M c2] w fun e w' => e = .returned (.bool true) ∧ Below w.heap.size w w' := by
  have hnil : ∀ a1 a2, M = 0 → Calls Tryd.prog 29 #[.slice a1 M c1, .slice a2 M c2] w fun e w' => e = .returned (.bool true) ∧ Below w.heap.size w w' := fun a1 a2 h0 => by
    subst h0
    refine (eqNodes_nil a1 a2 c1 c2 w).mono ?_
    rintro e w' ⟨rfl, rfl⟩
    exact ⟨rfl, Below.refl _ _⟩
  rcases h1 with h0 | ⟨g1, rfl, l1, n1⟩
  · exact hnil _ _ h0
  · rcases h2 with h0 | ⟨g2, rfl, l2, n2⟩
    · exact hnil _ _ h0
    · exact eqNodes_caps g1 g2 M c1 c2 f w hM l1 l2 n1 n2
set_option maxHeartbeats 1000000 in
theorem eqTree_gen {a1 a2 : Option Addr} {M : Nat} {f : Nat → Nd} {w : World} (c1 c2 : Nat) (hM : M ≤ 1048576) (h1 : NodesB w a1 M f) (h2 : NodesB w a2 M f) :
    Calls Tryd.prog 12 #[.agg #[.slice a1 M c1], .agg #[.slice a2 M c2]] w fun e w' => e = .returned (.bool true) ∧ Below w.heap.size w w' := by
  have HB := hid (below_two' w (.cells #[.slice a1 M c1] 31) (.cells #[.slice a2 M c2] 31))
  have H1 := hid (h1.next HB.out)
  have H2 := hid (h2.next HB.out)
  clear h1 h2
  go_enter Tryd.func12, Tryd.ntmps12
  go_wp2_with (go_at_call 29; refine (eqNodes_gen c1 c2 hM H1.out H2.out).mono ?_; rintro e w1 ⟨rfl, hb1⟩; have HB1 := hid (HB.out.trans (hb1.mono (by simp; omega))); clear hb1)
  go_ret
  exact ⟨rfl, HB1.out⟩
/-- A row of nodes of its own. -/
def OwnT (W : World) (ad : Option Addr) (M : Nat) (f : Nat → Nd) : Prop := M = 0 ∨ ∃ g, ad = some ⟨g, 0, none⟩ ∧ Filling W g M M f
theorem OwnT.next {W W' : World} {ad : Option Addr} {M : Nat} {f : Nat → Nd} (h : OwnT W ad M f) (hb : Below W.heap.size W W') : OwnT W' ad M f := h.imp_right fun ⟨g, e, h1⟩ => ⟨g, e, h1.next hb⟩
theorem OwnT.nodes {W : World} {ad : Option Addr} {M : Nat} {f : Nat → Nd} (h : OwnT W ad M f) : NodesB W ad M f := h.imp_right fun ⟨g, e, h1⟩ => ⟨g, e, (Array.getElem?_eq_some_iff.1 h1.1.choose_spec.1).1, h1.2⟩
theorem OwnT.sv {S : Nat → Prop} {W W' : World} {ad : Option Addr} {M : Nat} {f : Nat → Nd} (h : OwnT W ad M f) (hb : Sv S W W') (hS : M ≠ 0 → ∀ g, ad = some ⟨g, 0, none⟩ → ¬ S g) : OwnT W' ad M f := by
  have hn := h.nodes.sv hb hS
  rcases h with h | ⟨g, e, h1⟩
  · exact .inl h
  · by_cases h0 : M = 0
    · exact .inl h0
    · rcases hn with h | ⟨g', e', _, h3⟩
      · exact absurd h h0
      · rw [e] at e'
        injection e' with e'
        injection e' with e'
        subst e'
        obtain ⟨cur, c1, c2⟩ := h1.1
        exact .inr ⟨g, e, ⟨cur, (hb.block g (Array.getElem?_eq_some_iff.1 c1).1 (hS h0 g e)).trans c1, c2⟩, h3⟩
set_option maxHeartbeats 1000000 in
theorem markTree_nil (ad : Option Addr) (cap : Nat) (w : World) :
    Calls Tryd.prog 16 #[.agg #[.slice ad 0 cap], .int .i64 1] w fun e w' => e = .returned (.int .i64 1) ∧ Below w.heap.size w w' := by
  have HB0 := hid ((Below.refl w.heap.size w).alloc (Nat.le_refl _) (.cells #[.slice ad 0 cap] 31))
  have HM : Hid (∀ W, Calls Tryd.prog 31 #[.slice ad 0 cap, .int .i64 1] W fun e w' => e = .returned (.int .i64 1) ∧ w' = W) := fun W => by
    go_enter Tryd.func31, Tryd.ntmps31
    go_wp2
    go_loop [1, 5] (fun k i => k = .int .i64 1 ∧ i = .int .i64 0) (fun _ _ => 0)
    case atStart => exact ⟨rfl, rfl⟩
    case round =>
      obtain ⟨rfl, rfl⟩ := hrel
      go_wp2
      go_ret
      exact ⟨rfl, rfl⟩
  go_enter Tryd.func16, Tryd.ntmps16
  go_wp2_with fail
  refine (HM.out _).mono ?_
  rintro e w1 ⟨rfl, rfl⟩
  go_wp2
  go_ret
  exact ⟨rfl, HB0.out⟩
set_option maxHeartbeats 1000000 in
theorem heldTree_nil (ad : Option Addr) (cap : Nat) (w : World) :
    Calls Tryd.prog 21 #[.agg #[.slice ad 0 cap], .int .i64 1] w fun e w' => e = .returned (.int .i64 1) ∧ Below w.heap.size w w' := by
  have HB0 := hid ((Below.refl w.heap.size w).alloc (Nat.le_refl _) (.cells #[.slice ad 0 cap] 31))
  have HM : Hid (∀ W, Calls Tryd.prog 40 #[.slice ad 0 cap, .int .i64 1] W fun e w' => e = .returned (.int .i64 1) ∧ w' = W) := fun W => by
    go_enter Tryd.func40, Tryd.ntmps40
    go_wp2
    go_loop [1, 5] (fun k i => k = .int .i64 1 ∧ i = .int .i64 0) (fun _ _ => 0)
    case atStart => exact ⟨rfl, rfl⟩
    case round =>
      obtain ⟨rfl, rfl⟩ := hrel
      go_wp2
      go_ret
      exact ⟨rfl, rfl⟩
  go_enter Tryd.func21, Tryd.ntmps21
  go_wp2_with fail
  refine (HM.out _).mono ?_
  rintro e w1 ⟨rfl, rfl⟩
  go_wp2
  go_ret
  exact ⟨rfl, HB0.out⟩
theorem markTree_gen {ad : Option Addr} {M : Nat} {f : Nat → Nd} {w : World} (cap : Nat) (hM : M ≤ 1048576) (h : OwnT w ad M f) :
    Calls Tryd.prog 16 #[.agg #[.slice ad M cap], .int .i64 1] w fun e w' => e = .returned (.int .i64 (1 + 5 * M : Nat)) ∧ Sv (fun k => M ≠ 0 ∧ ad = some ⟨k, 0, none⟩) w w' ∧ OwnT w' ad M mkNd := by
  by_cases h0 : M = 0
  · subst h0
    refine (markTree_nil ad cap w).mono ?_
    rintro e w' ⟨rfl, hb⟩
    exact ⟨rfl, Sv.of_below hb, .inl rfl⟩
  · rcases h with h | ⟨g, rfl, h1⟩
    · exact absurd h h0
    · refine (markTree_any g M cap f w hM h1).mono ?_
      rintro e w' ⟨rfl, hs, h2⟩
      exact ⟨rfl, ⟨hs.os, hs.tape, hs.output, hs.size, fun k hk hn => hs.block k hk fun e => hn ⟨h0, by rw [e]⟩⟩, .inr ⟨g, rfl, h2⟩⟩
theorem heldTree_gen {ad : Option Addr} {M : Nat} {w : World} (cap : Nat) (hM : M ≤ 1048576) (h : OwnT w ad M mkNd) :
    Calls Tryd.prog 21 #[.agg #[.slice ad M cap], .int .i64 1] w fun e w' => e = .returned (.int .i64 (1 + 5 * M : Nat)) ∧ Below w.heap.size w w' := by
  by_cases h0 : M = 0
  · subst h0
    exact heldTree_nil ad cap w
  · rcases h with h | ⟨g, rfl, h1⟩
    · exact absurd h h0
    · exact heldTree_any g M cap w hM h1
theorem TreeV.nodes {W : World} {B M : Nat} {v : Value} {f : Nat → Nd} (h : TreeV W B v M f) : ∃ ad c, v = .slice ad M c ∧ NodesB W ad M f := by
  rcases h with ⟨rfl, rfl⟩ | ⟨g, c, rfl, _, h1, h2⟩
  · exact ⟨none, 0, rfl, .inl rfl⟩
  · exact ⟨_, c, rfl, .inr ⟨g, rfl, h1, h2⟩⟩
theorem TreeF.own {W : World} {B M : Nat} {v : Value} {f : Nat → Nd} (h : TreeF W B v M f) : ∃ ad c, v = .slice ad M c ∧ OwnT W ad M f ∧ (M ≠ 0 → ∀ g, ad = some ⟨g, 0, none⟩ → B ≤ g) := by
  rcases h with ⟨rfl, rfl⟩ | ⟨g, rfl, h1, h2⟩
  · exact ⟨none, 0, rfl, .inl rfl, fun h => absurd rfl h⟩
  · refine ⟨_, M, rfl, .inr ⟨g, rfl, h2⟩, fun _ g' e => ?_⟩
    injection e with e
    injection e with e
    omega
/-- Three variables of the law. -/
def Vars3 (W : World) (k8 k10 k11 : Nat) (x y z : Value) : Prop := W.heap[k8]? = some (.cells #[x] 31 (0, 0)) ∧ W.heap[k10]? = some (.cells #[y] 31 (0, 0)) ∧ W.heap[k11]? = some (.cells #[z] 31 (0, 0))
theorem Vars3.next {W W' : World} {k8 k10 k11 : Nat} {x y z : Value} (h : Vars3 W k8 k10 k11 x y z) (hb : Below W.heap.size W W') : Vars3 W' k8 k10 k11 x y z :=
  ⟨(hb.block _ (Array.getElem?_eq_some_iff.1 h.1).1).trans h.1, (hb.block _ (Array.getElem?_eq_some_iff.1 h.2.1).1).trans h.2.1, (hb.block _ (Array.getElem?_eq_some_iff.1 h.2.2).1).trans h.2.2⟩
theorem Vars3.sv {S : Nat → Prop} {W W' : World} {k8 k10 k11 : Nat} {x y z : Value} (h : Vars3 W k8 k10 k11 x y z) (hb : Sv S W W') (h1 : ¬ S k8) (h2 : ¬ S k10) (h3 : ¬ S k11) : Vars3 W' k8 k10 k11 x y z :=
  ⟨(hb.block _ (Array.getElem?_eq_some_iff.1 h.1).1 h1).trans h.1, (hb.block _ (Array.getElem?_eq_some_iff.1 h.2.1).1 h2).trans h.2.1, (hb.block _ (Array.getElem?_eq_some_iff.1 h.2.2).1 h3).trans h.2.2⟩
theorem Vars3.cells {W : World} {k8 k10 k11 : Nat} {x y z : Value} (h : Vars3 W k8 k10 k11 x y z) : W.cell? ⟨k8, 0, none⟩ = some x ∧ W.cell? ⟨k10, 0, none⟩ = some y ∧ W.cell? ⟨k11, 0, none⟩ = some z := ⟨cell_hp h.1 0, cell_hp h.2.1 0, cell_hp h.2.2 0⟩
end Go.Proofs.YtpobfklbbkdglaaDoor
namespace Go.Proofs.YtpobfklbbkdglaaDoor
open Go.RowKit
set_option maxRecDepth 20000
set_option maxHeartbeats 8000000 in
theorem law_rename (ad : Option Addr) (N cap : Nat) (nd : Nat → Nd) (at_ : Int) (s : ByteArray) (w : World) (hN : N ≤ maxLen) (hn : NodesA w ad N nd) (ht : ∀ i, i < N → (nd i).text.size ≤ maxLen) (hE : BEnv w) (hs : s.size ≤ maxLen) :
    Calls Tryd.prog 5 #[.agg #[.slice ad N cap], .int .i64 at_, .string s] w fun e w' => e = .returned (.bool true) ∧ Below w.heap.size w w' := by
  have HN := hid hn
  have HT := hid ht
  have HE := hid hE
  have HSM := hid hs
  clear hn ht hE
  by_cases hs2 : 1048576 < s.size
  · have HB0 := hid ((Below.refl w.heap.size w).alloc (Nat.le_refl _) (.cells #[.slice ad N cap] 24))
    go_enter Tryd.func5, Tryd.ntmps5
    go_wp2
    go_ret
    exact ⟨rfl, HB0.out⟩
  · have hs3 : s.size ≤ 1048576 := by omega
    clear hs
    go_enter Tryd.func5, Tryd.ntmps5
    go_wp2_with fail
    have HB0 := hid (Below.refl (w.heap.size + 1) (w.alloc (.cells #[.slice ad N cap] 24)))
    have HST : Hid (∀ W W', Below (w.heap.size + 1) (w.alloc (.cells #[.slice ad N cap] 24)) W → Below W.heap.size W W' → Below (w.heap.size + 1) (w.alloc (.cells #[.slice ad N cap] 24)) W') := fun W W' h h2 => h.trans (h2.mono (by have := h.size; simpa using this))
    have HSZ : Hid (∀ W, Below (w.heap.size + 1) (w.alloc (.cells #[.slice ad N cap] 24)) W → w.heap.size + 1 ≤ W.heap.size) := fun W h => by have := h.size; simpa using this
    refine (szTree_any ad N cap nd _ hN (HN.out.below (btree HB0.out)) HT.out).mono ?_
    rintro e w1 ⟨⟨r, rfl, h3⟩, hb1⟩
    have HB1 := hid (HST.out _ _ HB0.out hb1)
    have t1 := tree_cell HB1.out
    clear hb1
    by_cases hr : r < 0
    · clear h3
      go_wp2
      go_ret
      exact ⟨rfl, btree HB1.out⟩
    · obtain ⟨hN2, hx2⟩ := h3 (by omega)
      have HX2 := hid hx2
      clear h3 hx2
      go_wp2_with fail
      refine (toTree_any ad N cap nd _ hN2 (HN.out.below (btree HB1.out))).mono ?_
      rintro e w2 ⟨g2, rfl, n2, l2, k2, hb2⟩
      have HB2 := hid (HST.out _ _ HB1.out hb2)
      have NA2 := hid n2
      clear hb2 n2
      go_wp2_with fail
      refine (specRename_any g2 N N nd at_ s _ hN2 l2 NA2.out HT.out HSM.out).mono ?_
      rintro e w3 ⟨⟨v3, c, M, nd', rfl, hp3, htv3⟩, hb3⟩
      obtain ⟨a3, c3, rfl, hnb3⟩ := htv3.nodes
      have HP := hid hp3
      have hMN : M ≤ N := by
        rcases hp3 with ⟨_, rfl, _⟩ | ⟨_, ⟨_, rfl, _⟩ | ⟨_, _, _, _, ⟨_, rfl, _⟩ | ⟨_, _, rfl, _⟩⟩⟩
        all_goals omega
      have hM2 : M ≤ 1048576 := by omega
      have HB3 := hid (HST.out _ _ HB2.out hb3)
      have HA3 := hid ((Below.refl w3.heap.size w3).alloc (Nat.le_refl _) (.cells #[.slice a3 M c3] 31))
      have HB3a := hid (HST.out _ _ HB3.out HA3.out)
      have hs3z := HSZ.out _ HB3.out
      have t3 := tree_cell HB3a.out
      have HNB3 := hid (hnb3.next HA3.out)
      have HL3 : Hid (M ≠ 0 → ∀ g, a3 = some ⟨g, 0, none⟩ → g < w3.heap.size) := hnb3.lt
      clear hb3 hp3 htv3 hnb3
      go_wp2_with fail
      refine (toTreeX_any ad N cap nd _ hN2 (HN.out.below (btree HB3a.out))).mono ?_
      rintro e w4 ⟨g4, rfl, n4, l4, k4, hb4⟩
      have HB4 := hid (HST.out _ _ HB3a.out hb4)
      have NA4 := hid n4
      have HNB4 := hid (HNB3.out.next hb4)
      have hk4 : w3.heap.size + 1 ≤ g4 := by simpa using k4
      have HK8 : Hid (w4.heap[w3.heap.size]? = some (.cells #[.slice a3 M c3] 31 (0, 0))) := (hb4.block _ (by simp)).trans (heap_alloc_new w3 _)
      clear hb4 n4 t3
      go_wp2_with fail
      have HA4 := hid ((Below.refl w4.heap.size w4).alloc (Nat.le_refl _) (.cells #[.slice (some ⟨g4, 0, none⟩) N N] 31))
      have HB4a := hid (HST.out _ _ HB4.out HA4.out)
      refine (implRename_any g4 N N nd at_ s _ hN2 (by simp; omega) (NA4.out.2.below HA4.out l4) HX2.out hs3 (HE.out.below (btree HB4a.out) HE.out.pos)).mono ?_
      rintro e w5 ⟨⟨v5, c5, M5, nd5, rfl, hp5, htf5⟩, hb5⟩
      obtain ⟨rfl, rfl, hnd⟩ := hp5.unique HP.out
      obtain ⟨a5, cc5, rfl, how5, hg5⟩ := htf5.own
      have hw45 : w4.heap.size + 1 ≤ w5.heap.size := by have := hb5.size; simpa using this
      have HC5 := hid (HA4.out.trans (hb5.mono (by simp)))
      have HA5 := hid ((Below.refl w5.heap.size w5).alloc (Nat.le_refl _) (.cells #[.slice a5 M5 cc5] 31))
      have HC6 := hid (HC5.out.trans (HA5.out.mono HC5.out.size))
      have HB6 := hid (HST.out _ _ HB4.out HC6.out)
      have HG5 : Hid (M5 ≠ 0 → ∀ g, a5 = some ⟨g, 0, none⟩ → w4.heap.size + 1 ≤ g ∧ g < w5.heap.size) := fun h0 g e => ⟨by have := hg5 h0 g e; simpa using this, how5.nodes.lt h0 g e⟩
      have HO6 : Hid (OwnT (w5.alloc (.cells #[.slice a5 M5 cc5] 31)) a5 M5 nd') := by
        by_cases h0 : M5 = 0
        · exact .inl h0
        · rw [← hnd h0]; exact how5.next HA5.out
      have HNB6 := hid (HNB4.out.next HC6.out)
      have NA6 := hid (NA4.out.next HC6.out)
      have HV6 : Hid (Vars3 (w5.alloc (.cells #[.slice a5 M5 cc5] 31)) w3.heap.size w4.heap.size w5.heap.size (.slice a3 M5 c3) (.slice (some ⟨g4, 0, none⟩) N N) (.slice a5 M5 cc5)) := by
        refine ⟨(HC6.out.block _ (Array.getElem?_eq_some_iff.1 HK8.out).1).trans HK8.out, ?_, heap_alloc_new w5 _⟩
        rw [Below.heap_alloc _ _ _ (by omega), hb5.block _ (by simp)]
        exact heap_alloc_new w4 _
      clear hb5 hp5 htf5 hg5 how5 hnd
      generalize hW6 : w5.alloc (.cells #[.slice a5 M5 cc5] 31) = w6 at *
      have hw6 : w6.heap.size = w5.heap.size + 1 := by rw [← hW6]; simp
      obtain ⟨x8, x10, x11⟩ := HV6.out.cells
      have hnn : (c5 != c5) = false := by simp
      go_wp2_with fail
      refine (eqTree_gen cc5 c3 hM2 HO6.out.nodes HNB6.out).mono ?_
      rintro e w7 ⟨rfl, hb7⟩
      have HB7 := hid (HST.out _ _ HB6.out hb7)
      have HO7 := hid (HO6.out.next hb7)
      have HNB7 := hid (HNB6.out.next hb7)
      have NA7 := hid (NA6.out.next hb7)
      have HV7 := hid (HV6.out.next hb7)
      have hz7 := hb7.size
      clear hb7 x8 x10 x11
      obtain ⟨x8, x10, x11⟩ := HV7.out.cells
      have t7 := tree_cell HB7.out
      have hl7 : g4 < w7.heap.size := by omega
      go_wp2_with fail
      have HS7 : Hid (∀ W, Below w7.heap.size w7 W → W.cell? ⟨w.heap.size, 0, none⟩ = some (.slice ad N cap) ∧ W.cell? ⟨w4.heap.size, 0, none⟩ = some (.slice (some ⟨g4, 0, none⟩) N N)) := fun W h => ⟨tree_cell (HST.out _ _ HB7.out h), ((HV7.out.next h).cells).2.1⟩
      go_region_held3 (fun w' => w'.cell? ⟨w.heap.size, 0, none⟩ = some (.slice ad N cap) ∧ w'.cell? ⟨w4.heap.size, 0, none⟩ = some (.slice (some ⟨g4, 0, none⟩) N N)) (first | (exact HS7.out _ HC9.out) | (exact HS7.out _ HC8.out) | go_keep) (first
        | (go_at_call 9; refine (toTree_any ad N cap nd _ hN2 (HN.out.below (btree HB7.out).drew)).mono ?_; rintro e w8 ⟨g8, rfl, n8, l8, k8, hb8⟩; have NA8 := hid n8; have HC8 := hid ((Below.refl w7.heap.size w7).drew.trans hb8); clear n8 hb8)
        | (go_at_call 12; refine (eqTree_same g4 g8 N nd _ hN2 (Nat.lt_of_lt_of_le hl7 HC8.out.size) l8 (NA7.out.2.below HC8.out hl7) NA8.out).mono ?_; rintro e w9 ⟨rfl, hb9⟩; have HC9 := hid (HC8.out.trans (hb9.mono HC8.out.size)); clear hb9))
      have HB9 := hid (HST.out _ _ HB7.out HC9.out)
      have HO9 := hid (HO7.out.next HC9.out)
      have HNB9 := hid (HNB7.out.next HC9.out)
      have NA9 := hid (NA7.out.next HC9.out)
      have HV9 := hid (HV7.out.next HC9.out)
      clear t7 x8 x10 x11
      obtain ⟨x8, x10, x11⟩ := HV9.out.cells
      go_wp2_with fail
      refine (markTree_any g4 N N nd _ hN2 NA9.out).mono ?_
      rintro e w10 ⟨rfl, hsv10, _⟩
      have HB10 := hid (HB9.out.trans (hsv10.below (HSZ.out _ HB9.out) (fun k e => by omega)))
      have HO10 := hid (HO9.out.sv hsv10 (fun h0 g e => by have := (HG5.out h0 g e).1; omega))
      have HNB10 := hid (HNB9.out.sv hsv10 (fun h0 g e => by have := HL3.out h0 g e; omega))
      have HV10 := hid (HV9.out.sv hsv10 (by omega) (by omega) (by omega))
      clear hsv10 x8 x10 x11
      obtain ⟨x8, x10, x11⟩ := HV10.out.cells
      go_wp2_with fail
      refine (eqTree_gen cc5 c3 hM2 HO10.out.nodes HNB10.out).mono ?_
      rintro e w11 ⟨rfl, hb11⟩
      have HB11 := hid (HST.out _ _ HB10.out hb11)
      have HO11 := hid (HO10.out.next hb11)
      have HNB11 := hid (HNB10.out.next hb11)
      have HV11 := hid (HV10.out.next hb11)
      clear hb11 x8 x10 x11
      obtain ⟨x8, x10, x11⟩ := HV11.out.cells
      go_wp2_with fail
      refine (markTree_gen cc5 hM2 HO11.out).mono ?_
      rintro e w12 ⟨rfl, hsv12, ho12⟩
      have HB12 := hid (HB11.out.trans (hsv12.below (HSZ.out _ HB11.out) (fun k e => by have := (HG5.out e.1 k e.2).1; omega)))
      have HO12 := hid ho12
      have HNB12 := hid (HNB11.out.sv hsv12 (fun h0 g e e2 => by have := HL3.out h0 g e; have := (HG5.out h0 g e2.2).1; omega))
      have HV12 := hid (HV11.out.sv hsv12 (fun e => by have := (HG5.out e.1 _ e.2).1; omega) (fun e => by have := (HG5.out e.1 _ e.2).1; omega) (fun e => by have := (HG5.out e.1 _ e.2).2; omega))
      clear hsv12 ho12 x8 x10 x11
      obtain ⟨x8, x10, x11⟩ := HV12.out.cells
      go_wp2_with fail
      refine (heldTree_gen cc5 hM2 HO12.out).mono ?_
      rintro e w13 ⟨rfl, hb13⟩
      have HB13 := hid (HST.out _ _ HB12.out hb13)
      have HO13 := hid (HO12.out.next hb13)
      have HNB13 := hid (HNB12.out.next hb13)
      have HV13 := hid (HV12.out.next hb13)
      have t13 := tree_cell HB13.out
      clear hb13 x8 x10 x11
      go_wp2_with fail
      refine (toTree_any ad N cap nd _ hN2 (HN.out.below (btree HB13.out))).mono ?_
      rintro e w14 ⟨g14, rfl, n14, l14, k14, hb14⟩
      have HB14 := hid (HST.out _ _ HB13.out hb14)
      have HO14 := hid (HO13.out.next hb14)
      have HNB14 := hid (HNB13.out.next hb14)
      have HV14 := hid (HV13.out.next hb14)
      have NA14 := hid n14
      clear hb14 n14 t13
      go_wp2_with fail
      refine (implRename_any g14 N N nd at_ s _ hN2 l14 NA14.out HX2.out hs3 (HE.out.below (btree HB14.out) HE.out.pos)).mono ?_
      rintro e w15 ⟨⟨v15, c15, M15, nd15, rfl, hp15, htf15⟩, hb15⟩
      obtain ⟨rfl, rfl, hnd⟩ := hp15.unique HP.out
      obtain ⟨a15, cc15, rfl, how15, -⟩ := htf15.own
      have HA15 := hid ((Below.refl w15.heap.size w15).alloc (Nat.le_refl _) (.cells #[.slice a15 M15 cc15] 31))
      have HC16 := hid (hb15.trans (HA15.out.mono hb15.size))
      have HB16 := hid (HST.out _ _ HB14.out HC16.out)
      have HQ16 : Hid (OwnT (w15.alloc (.cells #[.slice a15 M15 cc15] 31)) a15 M15 nd') := by
        by_cases h0 : M15 = 0
        · exact .inl h0
        · rw [← hnd h0]; exact how15.next HA15.out
      have HO16 := hid (HO14.out.next HC16.out)
      have HNB16 := hid (HNB14.out.next HC16.out)
      have HV16 := hid (HV14.out.next HC16.out)
      have x16 : (w15.alloc (.cells #[.slice a15 M15 cc15] 31)).cell? ⟨w15.heap.size, 0, none⟩ = some (.slice a15 M15 cc15) := cell_new_row w15 _ _ 0
      clear hb15 hp15 htf15 how15 hnd
      generalize hW16 : w15.alloc (.cells #[.slice a15 M15 cc15] 31) = w16 at *
      obtain ⟨x8, x10, x11⟩ := HV16.out.cells
      have hnn : (c15 != c15) = false := by simp
      go_wp2_with fail
      refine (eqTree_gen cc15 c3 hM2 HQ16.out.nodes HNB16.out).mono ?_
      rintro e w17 ⟨rfl, hb17⟩
      have HB17 := hid (HST.out _ _ HB16.out hb17)
      have HO17 := hid (HO16.out.next hb17)
      have HV17 := hid (HV16.out.next hb17)
      clear hb17 x8 x10 x11 x16
      obtain ⟨x8, x10, x11⟩ := HV17.out.cells
      go_wp2_with fail
      refine (heldTree_gen cc5 hM2 HO17.out).mono ?_
      rintro e w18 ⟨rfl, hb18⟩
      have HB18 := hid (HST.out _ _ HB17.out hb18)
      clear hb18 x8 x10 x11
      go_wp2
      go_ret
      exact ⟨rfl, btree HB18.out⟩
end Go.Proofs.YtpobfklbbkdglaaDoor
