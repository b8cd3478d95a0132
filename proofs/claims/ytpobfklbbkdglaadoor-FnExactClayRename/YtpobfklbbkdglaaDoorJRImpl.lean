import Derived.Deep.DeepCutAuto
import Derived.Test.YtpobfklbbkdglaaDoorJRIsFr
import Derived.Test.YtpobfklbbkdglaaDoorJRSpec
import Derived.Test.YtpobfklbbkdglaaDoorJRBase
import Derived.Test.YtpobfklbbkdglaaDoorJInts
namespace Go.Proofs.YtpobfklbbkdglaaDoor
open Go.RowKit Go.Maps Go.WideMaps
set_option maxRecDepth 20000
/-- The tree that is handed back, in a row of its own. -/
def TreeF (W : World) (B : Nat) (v : Value) (M : Nat) (nd' : Nat → Nd) : Prop := (M = 0 ∧ v = .slice none 0 0) ∨ ∃ g, v = .slice (some ⟨g, 0, none⟩) M M ∧ B ≤ g ∧ Filling W g M M nd'
theorem look_place {W W' : World} {m n : Nat} {D : DataW Unit} (h : W.ownsMap Tryd.prog 3 unitElem m n D) (hk : W'.heap[m]? = W.heap[m]?) {k : Nat} (hk2 : k ≤ 1048576) :
    (Instr.lookup 65 (.map (some m)) (.int .i64 k) true).run Tryd.prog W' = .ok (.tuple #[.agg #[], .bool (Maps.has D (keyI k))]) W' := by
  have h' : W'.ownsMap Tryd.prog 3 unitElem m n D := by
    obtain ⟨es, clock, h1, h2⟩ := h
    exact ⟨es, clock, hk.trans h1, h2⟩
  obtain ⟨v, ps, hrun, hv⟩ := h'.look_ok (int_keyed Tryd.underlying3) Tryd.underlying65 (z := .agg #[]) (by rfl) unitElem_mk (keyOf_int_mk Tryd.underlying3 (keyI_wf hk2))
  obtain ⟨rfl, _⟩ := unitElem_inv hv
  exact hrun
/-- Behind the copy of a node and of its text: the node's cells, and the row that is filled. -/
theorem ren_mid {wr w7 : World} {gn M j : Nat} {f : Nat → Nd} {c0 c1 c2 c3 c4 : Value} {E : Obj} (hf : Filling wr gn M j f) (hb : Below ((wr.alloc (.cells #[c0, c1, c2, c3, c4] 58)).alloc E).heap.size ((wr.alloc (.cells #[c0, c1, c2, c3, c4] 58)).alloc E) w7) :
    (w7.cell? ⟨wr.heap.size, 0, none⟩ = some c0 ∧ w7.cell? ⟨wr.heap.size, 1, none⟩ = some c1 ∧ w7.cell? ⟨wr.heap.size, 2, none⟩ = some c2 ∧ w7.cell? ⟨wr.heap.size, 3, none⟩ = some c3 ∧ w7.cell? ⟨wr.heap.size, 4, none⟩ = some c4) ∧ w7.frozen? ⟨wr.heap.size, 3, none⟩ = false ∧ w7.heap[gn]? = some (.cells hf.1.choose 58 (0, 0)) ∧ hf.1.choose.size = M * 5 := by
  have e : w7.heap[wr.heap.size]? = some (.cells #[c0, c1, c2, c3, c4] 58 (0, 0)) := (hb.block _ (by simp; omega)).trans ((Below.heap_alloc _ _ _ (by simp)).trans (heap_alloc_new wr _))
  have hg := hf.1.choose_spec
  have hl := (Array.getElem?_eq_some_iff.1 hg.1).1
  exact ⟨⟨cell_hp e 0, cell_hp e 1, cell_hp e 2, cell_hp e 3, cell_hp e 4⟩, frozen_hp e 3, (hb.block _ (by simp; omega)).trans ((Below.heap_alloc _ _ _ (by simp; omega)).trans ((Below.heap_alloc _ _ _ hl).trans hg.1)), hg.2⟩
theorem ren_step {w4 wr w7 : World} {M j : Nat} {f : Nat → Nd} {y : Nd} {t : ByteArray} {x : Value} (hf : Filling wr w4.heap.size M j f) (hC : w7.heap[w4.heap.size]? = some (.cells hf.1.choose 58 (0, 0)) ∧ hf.1.choose.size = M * 5) (hB : Below w4.heap.size w4 w7) (hj : j < M) (hws : w4.heap.size ≤ wr.heap.size) (hR : f j = { y with text := t }) :
    Filling ((((((w7.setCell ⟨wr.heap.size, 3, none⟩ x).setCell ⟨w4.heap.size, j * 5, none⟩ (.int .i64 y.kind)).setCell ⟨w4.heap.size, j * 5 + 1, none⟩ (.int .i64 y.op)).setCell ⟨w4.heap.size, j * 5 + 2, none⟩ (.int .i64 y.n)).setCell ⟨w4.heap.size, j * 5 + 3, none⟩ (.string t)).setCell ⟨w4.heap.size, j * 5 + 4, none⟩ (.int .i64 y.kids)) w4.heap.size M (j + 1) f ∧
    Below w4.heap.size w4 ((((((w7.setCell ⟨wr.heap.size, 3, none⟩ x).setCell ⟨w4.heap.size, j * 5, none⟩ (.int .i64 y.kind)).setCell ⟨w4.heap.size, j * 5 + 1, none⟩ (.int .i64 y.op)).setCell ⟨w4.heap.size, j * 5 + 2, none⟩ (.int .i64 y.n)).setCell ⟨w4.heap.size, j * 5 + 3, none⟩ (.string t)).setCell ⟨w4.heap.size, j * 5 + 4, none⟩ (.int .i64 y.kids)) := by
  have hl := (Array.getElem?_eq_some_iff.1 hf.1.choose_spec.1).1
  have h8 : (w7.setCell ⟨wr.heap.size, 3, none⟩ x).heap[w4.heap.size]? = some (.cells hf.1.choose 58 (0, 0)) := (Below.heap_setCell _ _ _ _ (by show w4.heap.size ≠ wr.heap.size; omega)).trans hC.1
  have hold : ∀ i, i < j → hf.1.choose[i * 5]? = some (.int .i64 (f i).kind) ∧ hf.1.choose[i * 5 + 1]? = some (.int .i64 (f i).op) ∧ hf.1.choose[i * 5 + 2]? = some (.int .i64 (f i).n) ∧ hf.1.choose[i * 5 + 3]? = some (.string (f i).text) ∧ hf.1.choose[i * 5 + 4]? = some (.int .i64 (f i).kids) := fun i hi => by
    have hg := hf.1.choose_spec.1
    obtain ⟨d0, d1, d2, d3, d4⟩ := hf.2 i hi
    exact ⟨(cell_hp hg _).symm.trans d0, (cell_hp hg _).symm.trans d1, (cell_hp hg _).symm.trans d2, (cell_hp hg _).symm.trans d3, (cell_hp hg _).symm.trans d4⟩
  refine ⟨filling_arr hold hC.2 hj (set_at _ (set_at _ (set_at _ (set_at _ (set_at _ h8))))) (by rw [hR]) (by rw [hR]) (by rw [hR]) (by rw [hR]) (by rw [hR]), ?_⟩
  exact below_set (below_set (below_set (below_set (below_set (hB.setCell (p := ⟨wr.heap.size, 3, none⟩) hws _) _ _ (Nat.le_refl _) _) _ _ (Nat.le_refl _) _) _ _ (Nat.le_refl _) _) _ _ (Nat.le_refl _) _) _ _ (Nat.le_refl _) _
set_option maxHeartbeats 4000000 in
theorem implRename_any (b N cap : Nat) (nd : Nat → Nd) (at_ : Int) (s : ByteArray) (w : World) (hN : N ≤ 1048576) (hb : b < w.heap.size) (hn : NodesAt w b N nd) (hx : ∀ i, i < N → (nd i).text.size ≤ 1048576) (hs : s.size ≤ 1048576) (hE : BEnv w) :
    Calls Tryd.prog 20 #[.agg #[.slice (some ⟨b, 0, none⟩) N cap], .int .i64 at_, .string s] w fun e w' => (∃ v c M nd', e = .returned (.tuple #[.agg #[v], .int .i64 c]) ∧ RenI nd N at_ s c M nd' ∧ TreeF w' w.heap.size v M nd') ∧ Below w.heap.size w w' := by
  have HN := hid hn
  have HX := hid hx
  have HXM : Hid (∀ i, i < N → (nd i).text.size ≤ maxLen) := fun i hi => by have := hx i hi; unfold maxLen; omega
  have HS := hid hs
  have HE := hid hE
  obtain ⟨i0, hi, hz0, hz1, hz2⟩ := info_parts info_nd
  have HHI := hid (And.intro hi (And.intro hz0 (And.intro hz1 hz2)))
  clear hi hz0 hz1 hn hx hs hE
  have HB0 := hid (Below.refl (w.heap.size + 2) ((w.alloc (.cells #[.slice (some ⟨b, 0, none⟩) N cap] 31)).alloc (.cells #[.slice none 0 0] 31)))
  have HCH : Hid (∀ W W', Below (w.heap.size + 2) ((w.alloc (.cells #[.slice (some ⟨b, 0, none⟩) N cap] 31)).alloc (.cells #[.slice none 0 0] 31)) W → Below W.heap.size W W' → Below (w.heap.size + 2) ((w.alloc (.cells #[.slice (some ⟨b, 0, none⟩) N cap] 31)).alloc (.cells #[.slice none 0 0] 31)) W') := fun W W' h h2 => h.trans (h2.mono (ren_cells h).2.2.2)
  have HRET : Hid (∀ W, Below (w.heap.size + 2) ((w.alloc (.cells #[.slice (some ⟨b, 0, none⟩) N cap] 31)).alloc (.cells #[.slice none 0 0] 31)) W → Below w.heap.size w (W.setCell ⟨w.heap.size + 1, 0, none⟩ (.slice none 0 0)) ∧ (W.setCell ⟨w.heap.size + 1, 0, none⟩ (.slice none 0 0)).cell? ⟨w.heap.size + 1, 0, none⟩ = some (.slice none 0 0)) := fun W h => ⟨(ren_cells h).2.2.1.setCell (p := ⟨w.heap.size + 1, 0, none⟩) (Nat.le_succ _) _, (one_cell (one_set (ren_cells h).2.1 _)).1⟩
  go_enter Tryd.func20, Tryd.ntmps20
  go_wp2_with fail
  refine (bound_any b N cap nd _ hN (by simp; omega) (HN.out.below (ren_cells HB0.out).2.2.1 hb) HXM.out (HE.out.below (ren_cells HB0.out).2.2.1 HE.out.pos)).mono ?_
  intro e w1 he
  obtain ⟨hb1, ad, M, c, ca, bn, rfl, hf, hi1, hbi, hg1, hMN⟩ := he.fault
  have HC := hid hf
  have HB1 := hid (HCH.out _ _ (HB0.out.trans (hb1.mono (by simp))) ((Below.refl w1.heap.size w1).alloc (Nat.le_refl _) (.cells #[.int .i64 c, .int .i64 ca] 27)))
  obtain ⟨t1, r1, -, hz1⟩ := ren_cells HB1.out
  obtain ⟨r2, r3⟩ := one_cell r1
  by_cases h0 : c = 0
  · subst h0
    have HF0 := hid (faultI_code HC.out)
    have hMN2 : M = N := by
      rcases hbi with ⟨_, h⟩ | ⟨h, _⟩
      · exact absurd HF0.out h
      · exact h
    subst hMN2
    have HBI := hid hbi
    have HIN : Hid (IntsA (w1.alloc (.cells #[.int .i64 0, .int .i64 ca] 27)) ad M bn) := by
      rcases hi1 with h | ⟨g, cur, e, h1, h2⟩
      · exact .inl h
      · exact .inr ⟨g, cur, e, (Below.heap_alloc _ _ _ (Array.getElem?_eq_some_iff.1 h1).1).trans h1, h2⟩
    clear he hf hi1 hbi hg1 hb1 hMN
    by_cases hin : 0 ≤ at_ ∧ at_ < (M : Int)
    · obtain ⟨hl, hh⟩ := hin
      obtain ⟨a, rfl⟩ := Int.eq_ofNat_of_zero_le hl
      have haN : a < M := by omega
      obtain ⟨a0, a1, a2, a3, a4⟩ := (HN.out.below (ren_cells HB1.out).2.2.1 hb) a haN
      have HIL : Hid (∀ W, Calls Tryd.prog 36 #[.agg #[.int .i64 (nd a).kind, .int .i64 (nd a).op, .int .i64 (nd a).n, .string (nd a).text, .int .i64 (nd a).kids]] W fun e w' => e = .returned (.bool (isLoc nd a)) ∧ Below W.heap.size W w') := fun W => isLocal_any (nd a) W
      cases hlo : isLoc nd a with
      | true =>
        have HLO := hid hlo
        clear hlo
        go_wp2_with (first
          | (go_at_call 36; refine (HIL.out _).mono ?_; rintro e w2 ⟨rfl, hb2⟩; rw [HLO.out]; have HB2 := hid (HCH.out _ _ HB1.out hb2); have HIN2 := hid (HIN.out.next hb2); obtain ⟨t2, u1, -, hz2b⟩ := ren_cells HB2.out; obtain ⟨u2, u3⟩ := one_cell u1; clear hb2))
        refine (isFresh_any b M cap nd s _ hN (Nat.lt_of_lt_of_le hb (ren_cells HB2.out).2.2.1.size) (HN.out.below (ren_cells HB2.out).2.2.1 hb) (by have := HS.out; unfold maxLen; omega) (HE.out.below (ren_cells HB2.out).2.2.1 HE.out.pos)).mono ?_
        rintro e w3 ⟨hs3, hb3⟩
        have HB3 := hid (HCH.out _ _ HB2.out hb3)
        have HIN3 := hid (HIN2.out.next hb3)
        obtain ⟨t3, v1, -, hz3⟩ := ren_cells HB3.out
        obtain ⟨v2, v3⟩ := one_cell v1
        clear hb3 t1 r1 r2 r3 t2 u1 u2 u3 a0 a1 a2 a3 a4
        rcases hs3.get with ⟨rfl, hfr⟩ | ⟨rfl, hfr⟩
        · have HFR := hid hfr
          clear hfr hs3
          obtain ⟨gB, hgB, hlB, hcB⟩ : ∃ gB, ad = some ⟨gB, 0, none⟩ ∧ gB < w3.heap.size ∧ ∀ i, i < M → w3.cell? ⟨gB, i, none⟩ = some (.int .i64 (bn i)) := by
            rcases HIN3.out with h | ⟨g, cur, e, h1, h2⟩
            · omega
            · exact ⟨g, e, (Array.getElem?_eq_some_iff.1 h1).1, fun i hi => (cell_hp h1 i).trans (h2 i hi)⟩
          subst hgB
          have HCB := hid hcB
          clear hcB v1 v2 v3
          go_wp2_with fail
          refine (placesOf_any gB M M a bn _ hN haN hlB HCB.out).mono ?_
          rintro e w4 ⟨nD, D, rfl, hown, hinv, hb4⟩
          have HOWN := hid hown
          have HINV := hid hinv
          have HB4 := hid (HCH.out _ _ HB3.out hb4)
          obtain ⟨t4, v1, -, hz4⟩ := ren_cells HB4.out
          have hm4 : w3.heap.size < w4.heap.size := hown.lt
          clear hown hinv hb4 t3
          go_wp2_with (at_make; refine wpList_make_full _ rfl _ _ 29 rfl w4.heap.size 58 i0 (.agg #[.int .i64 0, .int .i64 0, .int .i64 0, .string ⟨#[]⟩, .int .i64 0]) 5 Tryd.underlying29 HHI.out.1 HHI.out.2.1 HHI.out.2.2.1 _ _ _ _ M rfl rfl rfl rfl (by rw [hz2]; omega) (by unfold maxLen; omega) (Nat.le_refl _) ?_; intro w5 o5 g5; have HB5 := hid ((Below.refl w4.heap.size w4).grown g5 (Nat.le_refl _) (fun q e => by cases e)); have HF5 : Hid (Filling w5 w4.heap.size M 0 (renN nd bn a s)) := (by obtain ⟨h1, ⟨h2, _⟩ | ⟨g, c, cur, e, _, h4, _, _, h7, _⟩⟩ := o5; (cases h2); (cases e; exact ⟨⟨cur, h4, h7⟩, fun i h => absurd h (Nat.not_lt_zero _)⟩)); obtain ⟨t5, -, -, hz5⟩ := ren_cells (HCH.out _ _ HB4.out HB5.out); clear o5 g5)
          clear t4 t5
          go_loopw [60] (fun i wr => ∃ j : Nat, j ≤ M ∧ i = .int .i64 j ∧ Filling wr w4.heap.size M j (renN nd bn a s) ∧ Below w4.heap.size w4 wr) (fun i _ => M - (intOf i).toNat)
          case atStart => exact ⟨0, Nat.zero_le _, rfl, HF5.out, HB5.out⟩
          case round =>
            obtain ⟨j, hj, rfl, hfi, hbw⟩ := hrel
            have HFI := hid hfi
            have HBW := hid hbw
            have HBC := hid (HCH.out _ _ HB4.out hbw)
            obtain ⟨t6, r1, -, hz6⟩ := ren_cells HBC.out
            obtain ⟨r2, r3⟩ := one_cell r1
            have hws := hbw.size
            clear hfi hbw
            by_cases hlt : j < M
            · obtain ⟨a0, a1, a2, a3, a4⟩ := (HN.out.below (ren_cells HBC.out).2.2.1 hb) j hlt
              have hne : ¬ w4.heap.size = wr.heap.size := fun e => by have := (Array.getElem?_eq_some_iff.1 HFI.out.1.choose_spec.1).1; omega
              have hne2 : ¬ wr.heap.size = w4.heap.size := fun e => hne e.symm
              have hlk0 : ∀ r, Maps.has D (keyI j) = r → (Instr.lookup 65 (.map (some w3.heap.size)) (.int .i64 j) true).run Tryd.prog (wr.alloc (.cells #[.int .i64 (nd j).kind, .int .i64 (nd j).op, .int .i64 (nd j).n, .string (nd j).text, .int .i64 (nd j).kids] 58)) = .ok (.tuple #[.agg #[], .bool r]) (wr.alloc (.cells #[.int .i64 (nd j).kind, .int .i64 (nd j).op, .int .i64 (nd j).n, .string (nd j).text, .int .i64 (nd j).kids] 58)) := fun r hr => by
                have := look_place (HOWN.out) (W' := wr.alloc (.cells #[.int .i64 (nd j).kind, .int .i64 (nd j).op, .int .i64 (nd j).n, .string (nd j).text, .int .i64 (nd j).kids] 58)) ((Below.heap_alloc _ _ _ (by omega)).trans (HBW.out.block _ hm4)) (k := j) (by omega)
                rw [hr] at this
                exact this
              by_cases hr : j = a ∨ (j < M ∧ bn j = (a : Int))
              · have HHAS : Hid (Maps.has D (keyI j) = true) := (HINV.out j).2 hr
                have HR : Hid (renN nd bn a s j = { nd j with text := s }) := by show _ = _; unfold renN; rw [if_pos (hr.imp_right (·.2))]
                clear hr
                have hlk := hlk0 true HHAS.out
                clear hlk0
                go_wp2_with (go_at_call 39; refine (clone_any s _ HS.out).mono ?_; rintro e w7 ⟨rfl, hb7⟩; obtain ⟨⟨n0, n1, n2, n3, n4⟩, m3, hC7⟩ := ren_mid HFI.out hb7; have HC7 := hid hC7; obtain ⟨⟨v0, x0⟩, ⟨v1', x1⟩, ⟨v2', x2⟩, ⟨v3', x3⟩, ⟨v4', x4⟩, y0, y1, y2, y3, y4⟩ := five_room (j := j) hC7.1 (by rw [hC7.2]; omega); have HB7 := hid (HBW.out.trans ((((Below.refl wr.heap.size wr).alloc (Nat.le_refl _) _).alloc (by simp) _).trans (hb7.mono (by simp; omega)) |>.mono hws)); clear hb7 hC7)
                have HNX := hid (ren_step (x := .string s) HFI.out HC7.out HB7.out hlt hws HR.out)
                go_roundw
                case rel => exact ⟨j + 1, by omega, by go_num, HNX.out.1, HNX.out.2⟩
                case measure => simp [intOf]; omega
              · have HHAS : Hid (Maps.has D (keyI j) = false) := by
                  show _ = _
                  cases hq : Maps.has D (keyI j) with
                  | false => rfl
                  | true => exact absurd ((HINV.out j).1 hq) hr
                have HR : Hid (renN nd bn a s j = { nd j with text := (nd j).text }) := by show _ = _; unfold renN; rw [if_neg (fun h => hr (h.imp_right fun h => ⟨hlt, h⟩))]
                clear hr
                have hlk := hlk0 false HHAS.out
                clear hlk0
                go_wp2_with (go_at_call 39; refine (clone_any (nd j).text _ (HX.out j hlt)).mono ?_; rintro e w7 ⟨rfl, hb7⟩; obtain ⟨⟨n0, n1, n2, n3, n4⟩, m3, hC7⟩ := ren_mid HFI.out hb7; have HC7 := hid hC7; obtain ⟨⟨v0, x0⟩, ⟨v1', x1⟩, ⟨v2', x2⟩, ⟨v3', x3⟩, ⟨v4', x4⟩, y0, y1, y2, y3, y4⟩ := five_room (j := j) hC7.1 (by rw [hC7.2]; omega); have HB7 := hid (HBW.out.trans ((((Below.refl wr.heap.size wr).alloc (Nat.le_refl _) _).alloc (by simp) _).trans (hb7.mono (by simp; omega)) |>.mono hws)); clear hb7 hC7)
                have HNX := hid (ren_step (x := .string (nd j).text) HFI.out HC7.out HB7.out hlt hws HR.out)
                go_roundw
                case rel => exact ⟨j + 1, by omega, by go_num, HNX.out.1, HNX.out.2⟩
                case measure => simp [intOf]; omega
            · obtain rfl : j = M := by omega
              have q2 := (one_cell (one_set r1 (.slice (some ⟨w4.heap.size, 0, none⟩) j j))).1
              have HQ1 := hid ((ren_cells HBC.out).2.2.1.setCell (p := ⟨w.heap.size + 1, 0, none⟩) (Nat.le_succ _) (.slice (some ⟨w4.heap.size, 0, none⟩) j j))
              have HFQ : Hid (Filling (wr.setCell ⟨w.heap.size + 1, 0, none⟩ (.slice (some ⟨w4.heap.size, 0, none⟩) j j)) w4.heap.size j j (renN nd bn a s)) := by
                obtain ⟨⟨cur, h1, h2⟩, h3⟩ := HFI.out
                exact ⟨⟨cur, (Below.heap_setCell _ _ _ _ (by show w4.heap.size ≠ w.heap.size + 1; omega)).trans h1, h2⟩, h3.set (by omega) _⟩
              go_wp2
              generalize wr.setCell ⟨w.heap.size + 1, 0, none⟩ (.slice (some ⟨w4.heap.size, 0, none⟩) j j) = w9 at *
              refine bodyPost_ret (v := .tuple #[.agg #[.slice (some ⟨w4.heap.size, 0, none⟩) j j], .int .i64 0]) (by simp [results, Tryd.results20, go_sem, q2]) rfl ?_
              exact ⟨⟨_, 0, j, renN nd bn a s, rfl, .inr ⟨HF0.out, .inr ⟨a, rfl, haN, HLO.out, .inr ⟨HFR.out, rfl, rfl, bn, HBI.out, rfl⟩⟩⟩, .inr ⟨w4.heap.size, rfl, by omega, HFQ.out⟩⟩, HQ1.out⟩
        · have HFR := hid hfr
          clear hfr hs3
          obtain ⟨q1, q2⟩ := HRET.out _ HB3.out
          have HQ1 := hid q1
          clear q1
          go_wp2
          generalize w3.setCell ⟨w.heap.size + 1, 0, none⟩ (.slice none 0 0) = w9 at *
          refine bodyPost_ret (v := .tuple #[.agg #[.slice none 0 0], .int .i64 3]) (by simp [results, Tryd.results20, go_sem, q2]) rfl ?_
          exact ⟨⟨_, 3, 0, nd, rfl, .inr ⟨HF0.out, .inr ⟨a, rfl, haN, HLO.out, .inl ⟨rfl, rfl, HFR.out⟩⟩⟩, .inl ⟨rfl, rfl⟩⟩, HQ1.out⟩
      | false =>
        have HLO := hid hlo
        have HNL : Hid (¬ LocAt nd M (a : Int)) := fun ⟨a', e, _, h⟩ => by have : a = a' := (by omega); rw [← this, HLO.out] at h; cases h
        clear hlo
        go_wp2_with (first
          | (go_at_call 36; refine (HIL.out _).mono ?_; rintro e w2 ⟨rfl, hb2⟩; rw [HLO.out]; have HB2 := hid (HCH.out _ _ HB1.out hb2); obtain ⟨t2, u1, -, hz2b⟩ := ren_cells HB2.out; obtain ⟨u2, u3⟩ := one_cell u1; clear hb2))
        obtain ⟨q1, q2⟩ := HRET.out _ HB2.out
        have HQ1 := hid q1
        clear q1
        go_wp2
        generalize w2.setCell ⟨w.heap.size + 1, 0, none⟩ (.slice none 0 0) = w9 at *
        refine bodyPost_ret (v := .tuple #[.agg #[.slice none 0 0], .int .i64 2]) (by simp [results, Tryd.results20, go_sem, q2]) rfl ?_
        exact ⟨⟨_, 2, 0, nd, rfl, .inr ⟨HF0.out, .inl ⟨rfl, rfl, HNL.out⟩⟩, .inl ⟨rfl, rfl⟩⟩, HQ1.out⟩
    · have HNL : Hid (¬ LocAt nd M at_) := fun ⟨a', e, h, _⟩ => hin (by omega)
      by_cases hlt : at_ < 0
      · clear hin
        obtain ⟨q1, q2⟩ := HRET.out _ HB1.out
        have HQ1 := hid q1
        clear q1
        go_wp2
        generalize (w1.alloc (.cells #[.int .i64 0, .int .i64 ca] 27)).setCell ⟨w.heap.size + 1, 0, none⟩ (.slice none 0 0) = w9 at *
        refine bodyPost_ret (v := .tuple #[.agg #[.slice none 0 0], .int .i64 2]) (by simp [results, Tryd.results20, go_sem, q2]) rfl ?_
        exact ⟨⟨_, 2, 0, nd, rfl, .inr ⟨HF0.out, .inl ⟨rfl, rfl, HNL.out⟩⟩, .inl ⟨rfl, rfl⟩⟩, HQ1.out⟩
      · have hge : (M : Int) ≤ at_ := by
          rcases Int.lt_or_le at_ (M : Int) with h | h
          · exact absurd ⟨by omega, h⟩ hin
          · exact h
        clear hin
        obtain ⟨q1, q2⟩ := HRET.out _ HB1.out
        have HQ1 := hid q1
        clear q1
        go_wp2
        generalize (w1.alloc (.cells #[.int .i64 0, .int .i64 ca] 27)).setCell ⟨w.heap.size + 1, 0, none⟩ (.slice none 0 0) = w9 at *
        refine bodyPost_ret (v := .tuple #[.agg #[.slice none 0 0], .int .i64 2]) (by simp [results, Tryd.results20, go_sem, q2]) rfl ?_
        exact ⟨⟨_, 2, 0, nd, rfl, .inr ⟨HF0.out, .inl ⟨rfl, rfl, HNL.out⟩⟩, .inl ⟨rfl, rfl⟩⟩, HQ1.out⟩
  · have HNF : Hid (¬ FaultI nd N 0 0) := fun h => h0 (HC.out.unique h).1
    have hc0 : (c != 0) = true := by simpa using h0
    clear he hf hi1 hbi hg1 hb1
    obtain ⟨q1, q2⟩ := HRET.out _ HB1.out
    have HQ1 := hid q1
    clear q1
    go_wp2
    generalize (w1.alloc (.cells #[.int .i64 c, .int .i64 ca] 27)).setCell ⟨w.heap.size + 1, 0, none⟩ (.slice none 0 0) = w9 at *
    refine bodyPost_ret (v := .tuple #[.agg #[.slice none 0 0], .int .i64 1]) (by simp [results, Tryd.results20, go_sem, q2]) rfl ?_
    exact ⟨⟨_, 1, 0, nd, rfl, .inl ⟨rfl, rfl, HNF.out⟩, .inl ⟨rfl, rfl⟩⟩, HQ1.out⟩
end Go.Proofs.YtpobfklbbkdglaaDoor
