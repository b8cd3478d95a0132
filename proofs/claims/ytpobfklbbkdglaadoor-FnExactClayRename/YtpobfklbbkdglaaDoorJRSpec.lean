import Derived.Deep.DeepCutAuto
import Derived.Test.YtpobfklbbkdglaaDoorJRBase
import Derived.Test.YtpobfklbbkdglaaDoorJVValid
namespace Go.Proofs.YtpobfklbbkdglaaDoor
open Go.RowKit
set_option maxRecDepth 20000
/-- The tree that is handed back. -/
def TreeV (W : World) (B : Nat) (v : Value) (M : Nat) (nd' : Nat → Nd) : Prop := (M = 0 ∧ v = .slice none 0 0) ∨ ∃ g c, v = .slice (some ⟨g, 0, none⟩) M c ∧ B ≤ g ∧ g < W.heap.size ∧ NodesAt W g M nd'
theorem own_slice {W : World} {B e size n : Nat} {v : Value} {xs : List Value} (h : W.ownsRow B e size v n xs) : ∃ ad c, v = .slice ad n c := by
  obtain ⟨_, ⟨rfl, rfl⟩ | ⟨g, cap, cur, rfl, _⟩⟩ := h
  · exact ⟨none, 0, rfl⟩
  · exact ⟨_, cap, rfl⟩
/-- An append to a row of its own, then its place is written: what is there. -/
theorem app_keep {wr w5 : World} {ob n : Nat} {X Y : Obj} {v : Value} {xs : List Value} (hob : wr.heap[ob]? = some (.cells #[v] 31 (0, 0))) (how : wr.ownsRow (ob + 1) 58 5 v n xs) (g5 : ((wr.alloc X).alloc Y).grownBy w5 v.ownBlock) : w5.heap[ob]? = some (.cells #[v] 31 (0, 0)) := by
  have hl := (Array.getElem?_eq_some_iff.1 hob).1
  rw [g5.block ob (by simp; omega) (fun e => by have := (own_lt how e.symm).1; omega), Below.heap_alloc _ _ _ (by simp; omega), Below.heap_alloc _ _ _ hl]
  exact hob
theorem app_end {w4 wr w5 : World} {n m : Nat} {X Y : Obj} {v v5 : Value} {xs ys : List Value} (hbw : Below w4.heap.size w4 wr) (hob : wr.heap[w4.heap.size]? = some (.cells #[v] 31 (0, 0))) (how : wr.ownsRow (w4.heap.size + 1) 58 5 v n xs) (o5 : w5.ownsRow (w4.heap.size + 1) 58 5 v5 m ys) (g5 : ((wr.alloc X).alloc Y).grownBy w5 v.ownBlock) :
    (w5.setCell ⟨w4.heap.size, 0, none⟩ v5).heap[w4.heap.size]? = some (.cells #[v5] 31 (0, 0)) ∧ (w5.setCell ⟨w4.heap.size, 0, none⟩ v5).ownsRow (w4.heap.size + 1) 58 5 v5 m ys ∧ Below w4.heap.size w4 (w5.setCell ⟨w4.heap.size, 0, none⟩ v5) := by
  have hs := hbw.size
  refine ⟨one_set (app_keep hob how g5) v5, own_keep o5 fun r hr => Below.heap_setCell _ _ _ _ (by have := (own_lt o5 hr).1; show r ≠ w4.heap.size; omega), ?_⟩
  refine Below.setCell (p := ⟨w4.heap.size, 0, none⟩) ?_ (Nat.le_refl _) _
  exact (((hbw.alloc hs X).alloc (by simp; omega) Y).grown g5 (by simp; omega) (fun k e => by have := (own_lt how e).1; omega))
set_option maxHeartbeats 4000000 in
theorem specRename_any (b N cap : Nat) (nd : Nat → Nd) (at_ : Int) (s : ByteArray) (w : World) (hN : N ≤ 1048576) (hb : b < w.heap.size) (hn : NodesAt w b N nd) (hx : ∀ i, i < N → (nd i).text.size ≤ maxLen) (hs : s.size ≤ maxLen) :
    Calls Tryd.prog 19 #[.agg #[.slice (some ⟨b, 0, none⟩) N cap], .int .i64 at_, .string s] w fun e w' => (∃ v c M nd', e = .returned (.tuple #[.agg #[v], .int .i64 c]) ∧ RenI nd N at_ s c M nd' ∧ TreeV w' w.heap.size v M nd') ∧ Below w.heap.size w w' := by
  have HN := hid hn
  have HX := hid hx
  have HS := hid hs
  obtain ⟨i0, hi, hz0, hz1, hz2⟩ := info_parts info_nd
  have HHI := hid (And.intro hi (And.intro hz0 (And.intro hz1 hz2)))
  clear hi hz0 hz1 hz2 hn hx hs
  have HB0 := hid (Below.refl (w.heap.size + 2) ((w.alloc (.cells #[.slice (some ⟨b, 0, none⟩) N cap] 31)).alloc (.cells #[.slice none 0 0] 31)))
  have HCH : Hid (∀ W W', Below (w.heap.size + 2) ((w.alloc (.cells #[.slice (some ⟨b, 0, none⟩) N cap] 31)).alloc (.cells #[.slice none 0 0] 31)) W → Below W.heap.size W W' → Below (w.heap.size + 2) ((w.alloc (.cells #[.slice (some ⟨b, 0, none⟩) N cap] 31)).alloc (.cells #[.slice none 0 0] 31)) W') := fun W W' h h2 => h.trans (h2.mono (ren_cells h).2.2.2)
  have HRET : Hid (∀ W, Below (w.heap.size + 2) ((w.alloc (.cells #[.slice (some ⟨b, 0, none⟩) N cap] 31)).alloc (.cells #[.slice none 0 0] 31)) W → Below w.heap.size w (W.setCell ⟨w.heap.size + 1, 0, none⟩ (.slice none 0 0)) ∧ (W.setCell ⟨w.heap.size + 1, 0, none⟩ (.slice none 0 0)).cell? ⟨w.heap.size + 1, 0, none⟩ = some (.slice none 0 0)) := fun W h => ⟨(ren_cells h).2.2.1.setCell (p := ⟨w.heap.size + 1, 0, none⟩) (Nat.le_succ _) _, (one_cell (one_set (ren_cells h).2.1 _)).1⟩
  go_enter Tryd.func19, Tryd.ntmps19
  go_wp2_with fail
  refine (specFits_any b N cap nd _ hN (by simp; omega) (HN.out.below (ren_cells HB0.out).2.2.1 hb) HX.out).mono ?_
  rintro e w1 ⟨⟨c, a, rfl, hc⟩, hb1⟩
  have HC := hid hc
  have HB1 := hid (HB0.out.trans (hb1.mono (by simp)))
  obtain ⟨t1, r1, -, hz1⟩ := ren_cells HB1.out
  obtain ⟨r2, r3⟩ := one_cell r1
  clear hc hb1
  by_cases h0 : c = 0
  · subst h0
    have HF0 := hid (faultI_code HC.out)
    rw [decide_eq_true rfl]
    by_cases hin : 0 ≤ at_ ∧ at_ < (N : Int)
    · obtain ⟨hl, hh⟩ := hin
      obtain ⟨a, rfl⟩ := Int.eq_ofNat_of_zero_le hl
      have haN : a < N := by omega
      obtain ⟨a0, a1, a2, a3, a4⟩ := (HN.out.below (ren_cells HB1.out).2.2.1 hb) a haN
      clear a1 a2 a3 a4
      have hdn : (decide ((0 : Int) ≤ (a : Int)) && decide ((a : Int) ≤ (N : Int) - 1)) = true := by simp; omega
      by_cases hlo : isLoc nd a = true
      · have HLO := hid hlo
        have hk : (nd a).kind = 14 ∨ (nd a).kind = 16 := by simpa [isLoc] using hlo
        clear hlo
        by_cases h1 : NameOk s
        · have H1 := hid h1
          clear h1
          cases h2 : isBuilt s with
          | true =>
            have H2 := hid h2
            clear h2
            rcases hk with hk | hk
            all_goals
              rw [hk] at a0
              go_wp2_with (first
                | (go_at_call 32; refine (l1In_dec _ _ _ _).mono ?_; rintro e w' ⟨rfl, hw⟩; have hw2 := hw.symm; clear hw; subst hw2; rw [hdn])
                | (go_at_call 33; refine (l1NameOk_any s _ HS.out).mono ?_; rintro e w2 ⟨hs2, hb2⟩; have hr := hs2.pos H1.out; subst hr; have HB2 := hid (HCH.out _ _ HB1.out hb2); obtain ⟨t2, u1, -, hz2⟩ := ren_cells HB2.out; obtain ⟨u2, u3⟩ := one_cell u1; clear hs2 hb2)
                | (go_at_call 35; refine (l3Builts_any _).mono ?_; rintro e w3 ⟨rfl, hw3⟩; have HW3 := hid hw3; have HB3 := hid (HCH.out _ w3 HB2.out (by rw [hw3]; exact (Below.refl _ _).alloc (Nat.le_refl _) _)); obtain ⟨t3, v1, -, hz3⟩ := ren_cells HB3.out; obtain ⟨v2, v3⟩ := one_cell v1; clear hw3)
                | (go_at_call 34; refine (hasBuilt_any s _ _ (fun i hi => by rw [HW3.out]; exact built2_cell w2 i hi)).mono ?_; rintro e w' ⟨rfl, hw⟩; have hw2 := hw.symm; clear hw; subst hw2; rw [H2.out]))
              obtain ⟨q1, q2⟩ := HRET.out _ HB3.out
              have HQ1 := hid q1
              clear q1
              generalize w3.setCell ⟨w.heap.size + 1, 0, none⟩ (.slice none 0 0) = w5 at *
              refine bodyPost_ret (v := .tuple #[.agg #[.slice none 0 0], .int .i64 3]) (by simp [results, Tryd.results19, go_sem, q2]) rfl ?_
              exact ⟨⟨_, 3, 0, nd, rfl, .inr ⟨HF0.out, .inr ⟨a, rfl, haN, HLO.out, .inl ⟨rfl, rfl, fun h => by have := h.2.1; rw [H2.out] at this; cases this⟩⟩⟩, .inl ⟨rfl, rfl⟩⟩, HQ1.out⟩
          | false =>
            have H2 := hid h2
            clear h2
            go_upto_region 3 with fail
            go_cut [40] (fun v wx => v = .bool false ∧ wx = w1)
            case first =>
              rcases hk with hk | hk
              all_goals
                rw [hk] at a0
                go_wp2_with (go_at_call 32; refine (l1In_dec _ _ _ _).mono ?_; rintro e w' ⟨rfl, hw⟩; have hw2 := hw.symm; clear hw; subst hw2; rw [hdn])
                go_meet
                case rel => exact ⟨rfl, rfl⟩
            case rest =>
              obtain ⟨rfl, hwc⟩ := hcut
              subst hwc
              clear a0 hk
              go_wp2_with (first
                | (go_at_call 33; refine (l1NameOk_any s _ HS.out).mono ?_; rintro e w2 ⟨hs2, hb2⟩; have hr := hs2.pos H1.out; subst hr; have HB2 := hid (HCH.out _ _ HB1.out hb2); obtain ⟨t2, u1, -, hz2⟩ := ren_cells HB2.out; obtain ⟨u2, u3⟩ := one_cell u1; clear hs2 hb2)
                | (go_at_call 35; refine (l3Builts_any _).mono ?_; rintro e w3 ⟨rfl, hw3⟩; have HW3 := hid hw3; have HB3 := hid (HCH.out _ w3 HB2.out (by rw [hw3]; exact (Below.refl _ _).alloc (Nat.le_refl _) _)); obtain ⟨t3, v1, -, hz3⟩ := ren_cells HB3.out; obtain ⟨v2, v3⟩ := one_cell v1; clear hw3)
                | (go_at_call 34; refine (hasBuilt_any s _ _ (fun i hi => by rw [HW3.out]; exact built2_cell w2 i hi)).mono ?_; rintro e w' ⟨rfl, hw⟩; have hw2 := hw.symm; clear hw; subst hw2; rw [H2.out]))
              refine (specBinds_any b N cap nd _ hN (Nat.lt_of_lt_of_le hb (ren_cells HB3.out).2.2.1.size) (HN.out.below (ren_cells HB3.out).2.2.1 hb) HX.out).mono ?_
              rintro e w4 ⟨⟨ad, M, cb, bn, rfl, hi4, hp4, hM, hg4⟩, hb4⟩
              have hMN : M = N := by
                rcases hp4 with ⟨_, h⟩ | ⟨h, _⟩
                · exact absurd HF0.out h
                · exact h
              subst hMN
              have HBI := hid hp4
              have HB4 := hid (HCH.out _ _ HB3.out hb4)
              obtain ⟨gB, hgB, hlB, hcB⟩ : ∃ gB, ad = some ⟨gB, 0, none⟩ ∧ gB < w4.heap.size ∧ ∀ i, i < M → w4.cell? ⟨gB, i, none⟩ = some (.int .i64 (bn i)) := by
                rcases hi4 with h | ⟨g, cur, e, h1, h2⟩
                · omega
                · exact ⟨g, e, (Array.getElem?_eq_some_iff.1 h1).1, fun i hi => (cell_hp h1 i).trans (h2 i hi)⟩
              subst hgB
              have HCB := hid hcB
              clear hi4 hp4 hg4 hb4 hcB t2 u1 u2 u3 t3 v1 v2 v3 t1 r1 r2 r3
              obtain ⟨t4, -, -, hz4⟩ := ren_cells HB4.out
              go_wp2
              go_loopw [10] (fun i wr => ∃ (j : Nat) (v : Value), j ≤ M ∧ i = .int .i64 j ∧ wr.heap[w4.heap.size]? = some (.cells #[v] 31 (0, 0)) ∧ wr.ownsRow (w4.heap.size + 1) 58 5 v j (rowL (renN nd bn a s) j) ∧ Below w4.heap.size w4 wr ∧ ∀ i, i < j → ¬ (nd i).text = s) (fun i _ => M - (intOf i).toNat)
              case atStart => exact ⟨0, _, Nat.zero_le _, rfl, heap_alloc_new w4 _, ⟨rfl, .inl ⟨rfl, rfl⟩⟩, (Below.refl _ _).alloc (Nat.le_refl _) _, fun i h => absurd h (Nat.not_lt_zero _)⟩
              case round =>
                obtain ⟨j, v, hj, rfl, hob, how, hbw, hnt⟩ := hrel
                have HOB := hid hob
                have HOW := hid how
                have HBW := hid hbw
                have HNTJ := hid hnt
                have HBC := hid (HCH.out _ _ HB4.out hbw)
                obtain ⟨t5, r1, -, hz5⟩ := ren_cells HBC.out
                obtain ⟨r2, r3⟩ := one_cell r1
                have hws := hbw.size
                clear t4 hob how hbw hnt
                by_cases hlt : j < M
                · obtain ⟨a0, a1, a2, a3, a4⟩ := (HN.out.below (ren_cells HBC.out).2.2.1 hb) j hlt
                  have c0 := (HBW.out.cell (p := ⟨gB, j, none⟩) hlB).trans (HCB.out j hlt)
                  have e0 : ∀ O, (wr.alloc O).cell? ⟨gB, j, none⟩ = some (.int .i64 (bn j)) := fun O => (cell_alloc_lt wr O _ _ (World.block_lt_of_cell? wr _ c0)).trans c0
                  have f0 : ∀ O, (wr.alloc O).cell? ⟨w4.heap.size, 0, none⟩ = some v := fun O => (cell_alloc_lt wr O _ _ (by have := World.block_lt_of_cell? wr _ (one_cell HOB.out).1; exact this)).trans (one_cell HOB.out).1
                  by_cases hte : (nd j).text = s
                  · have hq : ((nd j).text.toList == s.toList) = true := by rw [hte]; simp
                    have HTE : Hid (¬ FreshT nd M s) := fun h => h.2.2 ⟨j, hlt, hte⟩
                    have k1 : ∀ O, (wr.alloc O).heap[w.heap.size + 1]? = some (.cells #[.slice none 0 0] 31 (0, 0)) := fun O => (Below.heap_alloc _ _ _ (by omega)).trans r1
                    have k2 : ∀ O, (wr.alloc O).cell? ⟨w.heap.size + 1, 0, none⟩ = some (.slice none 0 0) := fun O => (one_cell (k1 O)).1
                    have k3 : ∀ O, (wr.alloc O).frozen? ⟨w.heap.size + 1, 0, none⟩ = false := fun O => (one_cell (k1 O)).2
                    clear hte k1
                    obtain ⟨q1, q2⟩ := HRET.out _ (HBC.out.alloc hz5 (.cells #[.int .i64 (nd j).kind, .int .i64 (nd j).op, .int .i64 (nd j).n, .string (nd j).text, .int .i64 (nd j).kids] 58))
                    have HQ1 := hid q1
                    clear q1
                    go_wp2
                    generalize World.setCell (wr.alloc (.cells #[.int .i64 (nd j).kind, .int .i64 (nd j).op, .int .i64 (nd j).n, .string (nd j).text, .int .i64 (nd j).kids] 58)) ⟨w.heap.size + 1, 0, none⟩ (.slice none 0 0) = w5 at *
                    refine bodyPost_ret (v := .tuple #[.agg #[.slice none 0 0], .int .i64 3]) (by simp [results, Tryd.results19, go_sem, q2]) rfl ?_
                    exact ⟨⟨_, 3, 0, nd, rfl, .inr ⟨HF0.out, .inr ⟨a, rfl, haN, HLO.out, .inl ⟨rfl, rfl, HTE.out⟩⟩⟩, .inl ⟨rfl, rfl⟩⟩, HQ1.out⟩
                  · have hq := str_ne hte
                    have HNT : Hid (∀ i, i < j + 1 → ¬ (nd i).text = s) := none_succ HNTJ.out hte
                    clear hte
                    by_cases hra : j = a
                    · have HR : Hid (ndL (renN nd bn a s j) = [.int .i64 (nd j).kind, .int .i64 (nd j).op, .int .i64 (nd j).n, .string s, .int .i64 (nd j).kids]) := by show _ = _; unfold renN; rw [if_pos (.inl hra)]; rfl
                      have hja : ((j : Int) == (a : Int)) = true := by simp [hra]
                      clear hra
                      go_wp2_with (at_builtin; refine wpList_append_own_at _ rfl (.tmp 85) (.tmp 87) 29 rfl (w4.heap.size + 1) 58 i0 (.agg #[.int .i64 0, .int .i64 0, .int .i64 0, .string ⟨#[]⟩, .int .i64 0]) 5 48 Tryd.underlying29 HHI.out.1 HHI.out.2.1 HHI.out.2.2.1 HHI.out.2.2.2 rfl (by decide) v _ _ rfl (own_two (own_two HOW.out _) _) ⟨wr.heap.size + 1, 0, none⟩ 1 1 [.int .i64 (nd j).kind, .int .i64 (nd j).op, .int .i64 (nd j).n, .string s, .int .i64 (nd j).kids] rfl rfl (cell_five_new1 wr _ _ _ _ _ _ _) (by simp [Value.oneCell']) (by unfold maxLen; omega) (by omega) (by simp; omega) ?_; intro v5 w5 o5 g5 nn5 b5; obtain ⟨ad5, c5, hv5⟩ := own_slice o5; subst hv5; have O5 := hid o5; have G5 := hid g5; obtain ⟨x0, x1⟩ := one_cell (app_keep HOB.out HOW.out g5); clear o5 g5 nn5 b5)
                      have HNX := hid (app_end HBW.out HOB.out HOW.out O5.out G5.out)
                      go_wp2
                      go_roundw
                      case rel => exact ⟨j + 1, _, by omega, by go_num, HNX.out.1, by rw [rowL_succ, HR.out]; exact HNX.out.2.1, HNX.out.2.2, HNT.out⟩
                      case measure => simp [intOf]; omega
                    · have hja : ((j : Int) == (a : Int)) = false := by simp; omega
                      by_cases hrb : bn j = (a : Int)
                      · have HR : Hid (ndL (renN nd bn a s j) = [.int .i64 (nd j).kind, .int .i64 (nd j).op, .int .i64 (nd j).n, .string s, .int .i64 (nd j).kids]) := by show _ = _; unfold renN; rw [if_pos (.inr hrb)]; rfl
                        have hjb : (bn j == (a : Int)) = true := by simp [hrb]
                        clear hra hrb
                        go_wp2_with (at_builtin; refine wpList_append_own_at _ rfl (.tmp 85) (.tmp 87) 29 rfl (w4.heap.size + 1) 58 i0 (.agg #[.int .i64 0, .int .i64 0, .int .i64 0, .string ⟨#[]⟩, .int .i64 0]) 5 48 Tryd.underlying29 HHI.out.1 HHI.out.2.1 HHI.out.2.2.1 HHI.out.2.2.2 rfl (by decide) v _ _ rfl (own_two (own_two HOW.out _) _) ⟨wr.heap.size + 1, 0, none⟩ 1 1 [.int .i64 (nd j).kind, .int .i64 (nd j).op, .int .i64 (nd j).n, .string s, .int .i64 (nd j).kids] rfl rfl (cell_five_new1 wr _ _ _ _ _ _ _) (by simp [Value.oneCell']) (by unfold maxLen; omega) (by omega) (by simp; omega) ?_; intro v5 w5 o5 g5 nn5 b5; obtain ⟨ad5, c5, hv5⟩ := own_slice o5; subst hv5; have O5 := hid o5; have G5 := hid g5; obtain ⟨x0, x1⟩ := one_cell (app_keep HOB.out HOW.out g5); clear o5 g5 nn5 b5)
                        have HNX := hid (app_end HBW.out HOB.out HOW.out O5.out G5.out)
                        go_wp2
                        go_roundw
                        case rel => exact ⟨j + 1, _, by omega, by go_num, HNX.out.1, by rw [rowL_succ, HR.out]; exact HNX.out.2.1, HNX.out.2.2, HNT.out⟩
                        case measure => simp [intOf]; omega
                      · have HR : Hid (ndL (renN nd bn a s j) = [.int .i64 (nd j).kind, .int .i64 (nd j).op, .int .i64 (nd j).n, .string (nd j).text, .int .i64 (nd j).kids]) := by show _ = _; unfold renN; rw [if_neg (by rintro (h | h); exact hra h; exact hrb h)]; rfl
                        have hjb : (bn j == (a : Int)) = false := by simp [hrb]
                        clear hra hrb
                        go_wp2_with (at_builtin; refine wpList_append_own_at _ rfl (.tmp 85) (.tmp 87) 29 rfl (w4.heap.size + 1) 58 i0 (.agg #[.int .i64 0, .int .i64 0, .int .i64 0, .string ⟨#[]⟩, .int .i64 0]) 5 48 Tryd.underlying29 HHI.out.1 HHI.out.2.1 HHI.out.2.2.1 HHI.out.2.2.2 rfl (by decide) v _ _ rfl (own_two (own_two HOW.out _) _) ⟨wr.heap.size + 1, 0, none⟩ 1 1 [.int .i64 (nd j).kind, .int .i64 (nd j).op, .int .i64 (nd j).n, .string (nd j).text, .int .i64 (nd j).kids] rfl rfl (cell_five_new1 wr _ _ _ _ _ _ _) (by simp [Value.oneCell']) (by unfold maxLen; omega) (by omega) (by simp; omega) ?_; intro v5 w5 o5 g5 nn5 b5; obtain ⟨ad5, c5, hv5⟩ := own_slice o5; subst hv5; have O5 := hid o5; have G5 := hid g5; obtain ⟨x0, x1⟩ := one_cell (app_keep HOB.out HOW.out g5); clear o5 g5 nn5 b5)
                        have HNX := hid (app_end HBW.out HOB.out HOW.out O5.out G5.out)
                        go_wp2
                        go_roundw
                        case rel => exact ⟨j + 1, _, by omega, by go_num, HNX.out.1, by rw [rowL_succ, HR.out]; exact HNX.out.2.1, HNX.out.2.2, HNT.out⟩
                        case measure => simp [intOf]; omega
                · obtain rfl : j = M := by omega
                  obtain ⟨f0, -⟩ := one_cell HOB.out
                  obtain ⟨g, cg, rfl, hg1, hg2, hno⟩ := nodes_of_own HOW.out (by omega)
                  have HNO := hid hno
                  have q2 := (one_cell (one_set r1 (.slice (some ⟨g, 0, none⟩) j cg))).1
                  have HQ1 := hid ((ren_cells HBC.out).2.2.1.setCell (p := ⟨w.heap.size + 1, 0, none⟩) (Nat.le_succ _) (.slice (some ⟨g, 0, none⟩) j cg))
                  have HNQ : Hid (NodesAt (wr.setCell ⟨w.heap.size + 1, 0, none⟩ (.slice (some ⟨g, 0, none⟩) j cg)) g j (renN nd bn a s)) := hno.set (by omega) _
                  have HLT : Hid (g < (wr.setCell ⟨w.heap.size + 1, 0, none⟩ (.slice (some ⟨g, 0, none⟩) j cg)).heap.size) := by rw [World.size_setCell]; exact hg2
                  clear hno
                  go_wp2
                  generalize wr.setCell ⟨w.heap.size + 1, 0, none⟩ (.slice (some ⟨g, 0, none⟩) j cg) = w5 at *
                  refine bodyPost_ret (v := .tuple #[.agg #[.slice (some ⟨g, 0, none⟩) j cg], .int .i64 0]) (by simp [results, Tryd.results19, go_sem, q2]) rfl ?_
                  exact ⟨⟨_, 0, j, renN nd bn a s, rfl, .inr ⟨HF0.out, .inr ⟨a, rfl, haN, HLO.out, .inr ⟨⟨H1.out, H2.out, fun ⟨i, hi, he⟩ => HNTJ.out i hi he⟩, rfl, rfl, bn, HBI.out, rfl⟩⟩⟩, .inr ⟨g, cg, rfl, by omega, HLT.out, HNQ.out⟩⟩, HQ1.out⟩
        · have H1 := hid h1
          clear h1
          rcases hk with hk | hk
          all_goals
            rw [hk] at a0
            go_wp2_with (first
              | (go_at_call 32; refine (l1In_dec _ _ _ _).mono ?_; rintro e w' ⟨rfl, hw⟩; have hw2 := hw.symm; clear hw; subst hw2; rw [hdn])
              | (go_at_call 33; refine (l1NameOk_any s _ HS.out).mono ?_; rintro e w2 ⟨hs2, hb2⟩; have hr := hs2.neg H1.out; subst hr; have HB2 := hid (HCH.out _ _ HB1.out hb2); obtain ⟨t2, u1, -, hz2⟩ := ren_cells HB2.out; obtain ⟨u2, u3⟩ := one_cell u1; clear hs2 hb2))
            obtain ⟨q1, q2⟩ := HRET.out _ HB2.out
            have HQ1 := hid q1
            clear q1
            generalize w2.setCell ⟨w.heap.size + 1, 0, none⟩ (.slice none 0 0) = w5 at *
            refine bodyPost_ret (v := .tuple #[.agg #[.slice none 0 0], .int .i64 3]) (by simp [results, Tryd.results19, go_sem, q2]) rfl ?_
            exact ⟨⟨_, 3, 0, nd, rfl, .inr ⟨HF0.out, .inr ⟨a, rfl, haN, HLO.out, .inl ⟨rfl, rfl, fun h => H1.out h.1⟩⟩⟩, .inl ⟨rfl, rfl⟩⟩, HQ1.out⟩
      · have HNL : Hid (¬ LocAt nd N (a : Int)) := fun ⟨a', e, _, h⟩ => hlo (by have : a = a' := (by omega); rw [this]; exact h)
        have h14 : ((nd a).kind != 14) = true := by
          have : ¬ (nd a).kind = 14 := fun e => hlo (by simp [isLoc, e])
          simpa using this
        have h16 : ((nd a).kind != 16) = true := by
          have : ¬ (nd a).kind = 16 := fun e => hlo (by simp [isLoc, e])
          simpa using this
        obtain ⟨q1, q2⟩ := HRET.out _ HB1.out
        have HQ1 := hid q1
        clear hlo q1
        go_wp2_with (go_at_call 32; refine (l1In_dec _ _ _ _).mono ?_; rintro e w' ⟨rfl, hw⟩; have hw2 := hw.symm; clear hw; subst hw2; rw [hdn])
        generalize w1.setCell ⟨w.heap.size + 1, 0, none⟩ (.slice none 0 0) = w5 at *
        refine bodyPost_ret (v := .tuple #[.agg #[.slice none 0 0], .int .i64 2]) (by simp [results, Tryd.results19, go_sem, q2]) rfl ?_
        exact ⟨⟨_, 2, 0, nd, rfl, .inr ⟨HF0.out, .inl ⟨rfl, rfl, HNL.out⟩⟩, .inl ⟨rfl, rfl⟩⟩, HQ1.out⟩
    · have HNL : Hid (¬ LocAt nd N at_) := fun ⟨a', e, h, _⟩ => hin (by omega)
      have hdn : (decide ((0 : Int) ≤ at_) && decide (at_ ≤ (N : Int) - 1)) = false := by
        cases hq : (decide ((0 : Int) ≤ at_) && decide (at_ ≤ (N : Int) - 1)) with
        | false => rfl
        | true => simp at hq; exact absurd ⟨hq.1, by omega⟩ hin
      obtain ⟨q1, q2⟩ := HRET.out _ HB1.out
      have HQ1 := hid q1
      clear hin q1
      go_wp2_with (go_at_call 32; refine (l1In_dec _ _ _ _).mono ?_; rintro e w' ⟨rfl, hw⟩; have hw2 := hw.symm; clear hw; subst hw2; rw [hdn])
      generalize w1.setCell ⟨w.heap.size + 1, 0, none⟩ (.slice none 0 0) = w5 at *
      refine bodyPost_ret (v := .tuple #[.agg #[.slice none 0 0], .int .i64 2]) (by simp [results, Tryd.results19, go_sem, q2]) rfl ?_
      exact ⟨⟨_, 2, 0, nd, rfl, .inr ⟨HF0.out, .inl ⟨rfl, rfl, HNL.out⟩⟩, .inl ⟨rfl, rfl⟩⟩, HQ1.out⟩
  · rw [decide_eq_false h0]
    have HNF : Hid (¬ FaultI nd N 0 0) := fun h => h0 (HC.out.unique h).1
    obtain ⟨q1, q2⟩ := HRET.out _ HB1.out
    have HQ1 := hid q1
    clear q1
    go_wp2
    generalize w1.setCell ⟨w.heap.size + 1, 0, none⟩ (.slice none 0 0) = w5 at *
    refine bodyPost_ret (v := .tuple #[.agg #[.slice none 0 0], .int .i64 1]) (by simp [results, Tryd.results19, go_sem, q2]) rfl ?_
    exact ⟨⟨_, 1, 0, nd, rfl, .inl ⟨rfl, rfl, HNF.out⟩, .inl ⟨rfl, rfl⟩⟩, HQ1.out⟩
end Go.Proofs.YtpobfklbbkdglaaDoor
