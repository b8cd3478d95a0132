import Derived.Test.YtfedmbadhcdpdaaGreatDoorJ19
import Derived.Test.YtfedmbadhcdpdaaGreatDoorJ39
/-! The shapes of a function, in the program. Printed by gen_is.py. -/
namespace Go.Proofs.YtfedmbadhcdpdaaGreatDoor.C
open Go.RowKit
set_option maxRecDepth 20000
theorem step_enter {P : Program} {ops : Array Oper} {o : Oper} {a : Act} {w : World} {K : Act → World → Prop} {Q : Exit → Act → World → Prop} {E : Prop} (hg : o.guard = none) {f : FuncId} {vals : Array Value}
    (hx : (execOp a.eval o).run P w = .ok (.enter f vals) w) {Q' : Ending → World → Prop} (hc : Calls P f vals w Q') (h : ∀ e w', Q' e w' → ∃ v, e = .returned v ∧ K (a.put o.dst v) w') :
    if Region.wanted o (yielded ops a.tmps) = true then Oper.wp P o a w K Q else E := by
  have hw : Region.wanted o (yielded ops a.tmps) = true := by simp [Region.wanted, hg]
  rw [if_pos hw]
  unfold Oper.wp
  rw [hx, Oper.upon_enter]
  refine hc.mono fun e w' hq => ?_
  obtain ⟨v, rfl, hk⟩ := h e w' hq
  exact hk
theorem step_append_own_at {P : Program} {ops : Array Oper} {o : Oper} {a : Act} {w : World} {K : Act → World → Prop} {Q : Exit → Act → World → Prop} {E : Prop} (hg : o.guard = none) (s x : Operand) (t : TypeId)
    (hop : o.op = Op.call { callee := Callee.builtin Builtin.append, args := #[s, x], argTypes := #[t, t] })
    (base : Nat) (e : TypeId) (i : TypeInfo) (z : Value) (size bytes : Nat) (ht : P.underlying t = some (.slice e)) (hi : P.info? e = some i) (hz : i.zero = some z)
    (hsize : i.size = size) (hby : i.bytes = bytes) (hzs : z.cells.size = size) (hsz : 0 < size)
    (v : Value) (n : Nat) (xs : List Value) (hs : a.eval s = v) (hown : w.ownsRow base e size v n xs)
    (ad : Addr) (m c : Nat) (news : List Value) (hx : a.eval x = .slice (some ad) m c) (hl : news.length = m * size) (hnews : ∀ j u, news[j]? = some u → w.cell? (ad.add j) = some u) (h1 : ∀ u ∈ news, u.oneCell' = true)
    (h63 : n + m ≤ maxLen) (hbytes : (n + m) * bytes ≤ 140737488355328) (hbase : base ≤ w.heap.size)
    (h : ∀ v' w', w'.ownsRow base e size v' (n + m) (xs ++ news) → w.grownBy w' v.ownBlock → (v' = .slice none 0 0 ↔ v = .slice none 0 0 ∧ m = 0) → (v'.ownBlock = v.ownBlock ∨ v'.ownBlock = some w.heap.size) → K (a.put o.dst v') w') :
    if Region.wanted o (yielded ops a.tmps) = true then Oper.wp P o a w K Q else E := by
  have hw : Region.wanted o (yielded ops a.tmps) = true := by simp [Region.wanted, hg]
  rw [if_pos hw]
  obtain ⟨v', w', hr, h2, h3, h4, h5⟩ := run_append_own_at (P := P) w base t o.type e i z size bytes ht hi hz hsize hby hzs hsz v n xs hown ad m c news hl hnews h1 h63 hbytes hbase
  unfold Oper.wp
  simp [execOp, hop, resolve, invoke, builtin, hs, hx, hr, Result.andThen]
  exact h v' w' h2 h3 h4 h5
/-- A shape that was made: its two rows lie in blocks of their own. -/
structure ShE where
  s : Sh
  g1 : Nat
  g2 : Nat
def cellsS : List ShE → List Value
  | [] => []
  | x :: l => .int .i64 (x.s.st : Nat) :: .slice (some ⟨x.g1, 0, none⟩) x.s.sl.length x.s.sl.length :: .slice (some ⟨x.g2, 0, none⟩) x.s.sk.length x.s.sk.length :: cellsS l
theorem cellsS_app : ∀ a b : List ShE, cellsS (a ++ b) = cellsS a ++ cellsS b
  | [], b => rfl
  | x :: a, b => by simp only [cellsS, List.cons_append, cellsS_app a b]
/-- A row of shapes of one's own: the rows of their types lie one behind the other. -/
structure NRow (B : Nat) (W : World) (v : Value) (L : List ShE) : Prop where
  own : W.ownsRow B 43 3 v L.length (cellsS L)
  ins : ∀ x ∈ L, B ≤ x.g1 ∧ x.g1 < x.g2 ∧ IntB W x.g1 x.s.sl ∧ IntB W x.g2 x.s.sk
  asc : L.Pairwise fun x y => x.g2 < y.g1
theorem NRow.next {B : Nat} {W V : World} {v : Value} {L : List ShE} (h : NRow B W v L) (hb : Below W.heap.size W V) : NRow B V v L :=
  ⟨own_next h.own hb, fun x hx => ⟨(h.ins x hx).1, (h.ins x hx).2.1, (h.ins x hx).2.2.1.next hb, (h.ins x hx).2.2.2.next hb⟩, h.asc⟩
theorem NRow.mono {B B' : Nat} {W : World} {v : Value} {L : List ShE} (h : NRow B W v L) (hb : B' ≤ B) : NRow B' W v L := by
  refine ⟨?_, fun x hx => ⟨Nat.le_trans hb (h.ins x hx).1, (h.ins x hx).2⟩, h.asc⟩
  obtain ⟨hl, h | ⟨g, cap, cur, e, hB, h⟩⟩ := h.own
  · exact ⟨hl, .inl h⟩
  · exact ⟨hl, .inr ⟨g, cap, cur, e, Nat.le_trans hb hB, h⟩⟩
theorem own_form3 {W : World} {B n : Nat} {v : Value} {xs : List Value} (h : W.ownsRow B 43 3 v n xs) : ∃ ad c, v = .slice ad n c := by
  obtain ⟨_, ⟨rfl, rfl⟩ | ⟨g, cap, cur, rfl, _⟩⟩ := h
  · exact ⟨none, 0, rfl⟩
  · exact ⟨_, cap, rfl⟩
theorem own_ty3 {W : World} {B n : Nat} {v : Value} {xs : List Value} {g : Nat} {cs : Array Value} (h : W.ownsRow B 43 3 v n xs) (hg : W.heap[g]? = some (.cells cs 3 (0, 0))) : some g ≠ v.ownBlock := fun e => by
  obtain ⟨_, ⟨rfl, _⟩ | ⟨g', cap, cur, rfl, _, hc, _⟩⟩ := h
  · cases e
  · simp [Value.ownBlock] at e
    subst e
    rw [hc] at hg
    cases hg
theorem IntB.grown {W V : World} {g : Nat} {l : List Int} {B n : Nat} {v : Value} {xs : List Value} (h : IntB W g l) (ho : W.ownsRow B 43 3 v n xs) (hg : W.grownBy V v.ownBlock) : IntB V g l := by
  obtain ⟨cur, e, h1⟩ := h
  exact ⟨cur, (hg.block g (lt_hp e) (own_ty3 ho e)).trans e, h1⟩
theorem grow3 {w W V : World} {B n : Nat} {v : Value} {xs : List Value} (lo : Below B w W) (h : W.ownsRow B 43 3 v n xs) (hB : B ≤ W.heap.size) (hg : W.grownBy V v.ownBlock) : Below B w V := by
  refine lo.grown hg hB fun q e => ?_
  obtain ⟨_, ⟨rfl, _⟩ | ⟨g, cap, cur, rfl, hb, _⟩⟩ := h
  · cases e
  · simp [Value.ownBlock] at e
    omega
theorem lit3 (W : World) (a b c : Value) : ∀ j u, ([a, b, c] : List Value)[j]? = some u → (W.alloc (.cells #[a, b, c] 43)).cell? ((⟨W.heap.size, 0, none⟩ : Addr).add j) = some u := fun j u hj => by
  have ea : (⟨W.heap.size, 0, none⟩ : Addr).add j = ⟨W.heap.size, j, none⟩ := by
    by_cases hj0 : j = 0
    · subst hj0; simp [Addr.add]
    · simp [Addr.add, hj0]
  rw [ea, cell_of_row _ _ j _ _ (0, 0) (heap_alloc_new W _)]
  simpa using hj
theorem one3 (a : Int) (p q : Option Addr) (n m : Nat) : ∀ u ∈ ([.int .i64 a, .slice p n n, .slice q m m] : List Value), u.oneCell' = true := fun u hu => by
  simp only [List.mem_cons, List.not_mem_nil, or_false] at hu
  rcases hu with rfl | rfl | rfl <;> rfl
/-- A further shape. -/
theorem NRow.more {B : Nat} {W V : World} {v v' : Value} {L : List ShE} {x : ShE} {n : Nat} (h : NRow B W v L) (hn : n = L.length) (ho : V.ownsRow B 43 3 v' (n + 1) (cellsS L ++ [.int .i64 (x.s.st : Nat), .slice (some ⟨x.g1, 0, none⟩) x.s.sl.length x.s.sl.length, .slice (some ⟨x.g2, 0, none⟩) x.s.sk.length x.s.sk.length])) (hg : W.grownBy V v.ownBlock) (h0 : B ≤ x.g1) (h1 : x.g1 < x.g2) (h2 : IntB W x.g1 x.s.sl) (h3 : IntB W x.g2 x.s.sk) (h4 : ∀ y ∈ L, y.g2 < x.g1) : NRow B V v' (L ++ [x]) := by
  refine ⟨?_, fun y hy => ?_, ?_⟩
  · rw [cellsS_app, List.length_append, ← hn]
    exact ho
  · rcases List.mem_append.1 hy with hy | hy
    · have := h.ins y hy
      exact ⟨this.1, this.2.1, this.2.2.1.grown h.own hg, this.2.2.2.grown h.own hg⟩
    · obtain rfl := List.mem_singleton.1 hy
      exact ⟨h0, h1, h2.grown h.own hg, h3.grown h.own hg⟩
  · refine List.pairwise_append.2 ⟨h.asc, List.pairwise_singleton _ _, fun a ha b hb => ?_⟩
    obtain rfl := List.mem_singleton.1 hb
    exact h4 a ha
/-- What Shapes answers. -/
def ShsIs (fns : List Fn) (a : Int) (l : List Sh) : Prop := (¬ (Plain fns 0 0 0 ∧ 0 ≤ a ∧ a < fns.length) ∧ l = []) ∨ (Plain fns 0 0 0 ∧ ∃ q : Nat, a = q ∧ q < fns.length ∧ ∃ A, Least fns (fns.getD q fn0) A ∧ l = (List.range (fns.getD q fn0).ins.length).map A)
theorem ShsIs.uniq {fns : List Fn} {a : Int} {l l' : List Sh} (h : ShsIs fns a l) (h' : ShsIs fns a l') : l = l' := by
  rcases h with ⟨h1, h2⟩ | ⟨h1, q, h2, h3, A, h4, h5⟩ <;> rcases h' with ⟨k1, k2⟩ | ⟨k1, q', k2, k3, A', k4, k5⟩
  · rw [h2, k2]
  · exact absurd ⟨k1, by omega, by omega⟩ h1
  · exact absurd ⟨h1, by omega, by omega⟩ k1
  · obtain rfl : q = q' := by omega
    rw [h5, k5]
    refine List.map_congr_left fun p hp => ?_
    exact least_unique h4.1 h4.2 k4.1 k4.2 p (List.mem_range.1 hp)
def ShsEnd (fns : List Fn) (a : Int) (w : World) (e : Ending) (w' : World) : Prop := ∃ v L, e = .returned v ∧ ShsIs fns a (L.map ShE.s) ∧ NRow w.heap.size w' v L ∧ Below w.heap.size w w'
theorem okSh_10 {S : Nat} {s : Sh} (h : OkSh S s) (hS : S ≤ 600) : Ok10 s.sl ∧ s.sl.length ≤ 600 ∧ Ok10 s.sk ∧ s.sk.length ≤ 600 := by
  rcases h with rfl | rfl | ⟨_, h2, h3, h4, h5⟩
  · exact ⟨(fun x hx => (by cases hx)), Nat.zero_le _, (fun x hx => (by cases hx)), Nat.zero_le _⟩
  · exact ⟨(fun x hx => (by cases hx)), Nat.zero_le _, (fun x hx => (by cases hx)), Nat.zero_le _⟩
  · exact ⟨h3, by omega, fun x hx => by have := h4 x hx; omega, h5⟩
set_option maxHeartbeats 8000000 in
theorem implShapes_any {fns : List Fn} {w : World} {cv : Value} (a : Int) (h1 : FnsRow w cv fns) (hC : CodeS fns) (hE : EnvI w) :
    Calls Tryz.prog 11 #[.agg #[cv], .int .i64 a] w (ShsEnd fns a w) := by
  have H1 := hid h1
  have HC := hid hC
  have HE := hid hE
  obtain ⟨aF, cF, hcv⟩ := h1.sl
  subst hcv
  clear h1 hC hE
  obtain ⟨i0, hi, hz0, hz1, hz2⟩ := info_parts shape_info
  have HHI := hid (And.intro hi (And.intro hz0 (And.intro hz1 hz2)))
  clear hi hz0 hz1 hz2
  have HNIL : Hid (∀ W, Below w.heap.size w W → ¬ (Plain fns 0 0 0 ∧ 0 ≤ a ∧ a < fns.length) → ShsEnd fns a w (.returned (.slice none 0 0)) W) := hid fun W hb hn => ⟨_, [], rfl, .inl ⟨hn, rfl⟩, ⟨⟨rfl, .inl ⟨rfl, rfl⟩⟩, (fun x hx => (by cases hx)), List.Pairwise.nil⟩, hb⟩
  go_enter Tryz.func11, Tryz.ntmps11
  go_upto_region 1 with fail
  have HX0 := hid (PX.start w (.slice aF fns.length cF))
  obtain ⟨W1, hW1⟩ : ∃ W, w.alloc (.cells #[.slice aF fns.length cF] 30) = W := ⟨_, rfl⟩
  rw [hW1] at HX0 ⊢
  clear hW1
  have k0 := cx HX0.out.e0
  have HTX := hid (text_any (H1.out.next HX0.out.lo) HC.out (HE.out.next HX0.out.lo))
  go_wp2_with fail
  refine HTX.out.mono ?_
  rintro e w2 ⟨hcs, hb2⟩
  have HX := hid (HX0.out.next hb2)
  clear hb2 k0 HX0 HTX
  rcases hcs with ⟨rfl, hp⟩ | ⟨c, k, i, hc0, rfl, hp⟩
  · have HPL := hid hp
    clear hp
    have k0 := cx HX.out.e0
    by_cases ha0 : a < 0
    · have HE9 := hid (HNIL.out w2 HX.out.lo (fun h => by omega))
      have ha1 : decide (a < 0) = true := decide_eq_true ha0
      go_wp2_with fail
      go_ret
      exact HE9.out
    · have ha1 : decide (a < 0) = false := decide_eq_false ha0
      by_cases haL : (fns.length : Int) ≤ a
      · have HE9 := hid (HNIL.out w2 HX.out.lo (fun h => by omega))
        have ha2 : decide ((fns.length : Int) ≤ a) = true := decide_eq_true haL
        go_wp2_with fail
        go_ret
        exact HE9.out
      · have ha2 : decide ((fns.length : Int) ≤ a) = false := decide_eq_false haL
        obtain ⟨q, rfl⟩ : ∃ q : Nat, a = q := ⟨a.toNat, by omega⟩
        have hq : q < fns.length := by omega
        have HRT := hid (plain_right HPL.out)
        have HMEM : Hid (fns.getD q fn0 ∈ fns) := hid (by rw [List.getD_eq_getElem?_getD, List.getElem?_eq_getElem hq]; exact List.getElem_mem hq)
        have HNW := hid (new_any (H1.out.next HX.out.lo) (HE.out.next HX.out.lo) hq HRT.out.1)
        have HFQ := hid (show (fns.getD q fn0).S ≤ 600 ∧ (fns.getD q fn0).ins.length ≤ 100000 from by have h := HRT.out.1 _ HMEM.out; have h1 := h.slots; have h2 := h.some_; unfold Fn.S; omega)
        have HIS : Hid (∀ A, Least fns (fns.getD q fn0) A → ∀ L : List ShE, L.map ShE.s = (List.range (fns.getD q fn0).ins.length).map A → ShsIs fns q (L.map ShE.s)) := hid fun A hA L hL => .inr ⟨HPL.out, q, rfl, hq, A, hA, hL⟩
        obtain ⟨f, hf⟩ : ∃ f, fns.getD q fn0 = f := ⟨_, rfl⟩
        rw [hf] at HNW HFQ HIS
        clear hf HNIL
        have hins := HFQ.out.2
        go_wp2_with (go_at_call 26; refine HNW.out.mono ?_; rintro e w4 ⟨W2, b, gL, cv4, pv, iv, A, wv, rfl, hb4, hsg, hsp, hcl, hlow⟩; have HLS : Hid (Least fns f A) := hid ⟨hcl, hlow⟩; have HOK := hid hcl.ok; have HX4 := hid (HX.out.next (hb4.trans (hsp.lo.mono hb4.size))); have HLY := hid hsp.ly; have k4 : w4.cell? ⟨b, 6, none⟩ = some (.slice (some ⟨gL, 0, none⟩) f.ins.length f.ins.length) := cell_of_row _ b 6 _ _ (0, 0) hsp.e; clear hb4 hsg hsp hcl hlow)
        go_loopw [5, 7, 29] (fun v _ i wr => ∃ (j : Nat) (L : List ShE), j ≤ f.ins.length ∧ i = .int .i64 j ∧ L.map ShE.s = (List.range j).map A ∧ NRow w4.heap.size wr v L ∧ Below w4.heap.size w4 wr) (fun _ _ i _ => f.ins.length - (intOf i).toNat)
        case atStart => exact ⟨0, [], Nat.zero_le _, rfl, rfl, ⟨⟨rfl, .inl ⟨rfl, rfl⟩⟩, (fun x hx => (by cases hx)), List.Pairwise.nil⟩, Below.refl _ _⟩
        case round =>
          obtain ⟨j, L, hj, rfl, hL, hnr, hlo⟩ := hrel
          have HL := hid hL
          have HNR := hid hnr
          have HLO := hid hlo
          have HLJ : Hid (L.length = j) := hid (by have := congrArg List.length hL; simpa using this)
          have hLb : L.length ≤ 100000 := by have := HLJ.out; omega
          obtain ⟨av, cv0, rfl⟩ := own_form3 hnr.own
          clear hL hnr hlo
          by_cases hlt : j < f.ins.length
          · obtain ⟨a0, a1, a2, _⟩ := (HLY.out.next HLO.out).at hlt
            have HKD := hid (okSh_10 (HOK.out j hlt) HFQ.out.1)
            have HNX : Hid ((List.range (j + 1)).map A = (List.range j).map A ++ [A j]) := hid (by rw [List.range_succ, List.map_append]; rfl)
            obtain ⟨⟨st, sl, sk⟩, hs⟩ : ∃ s, A j = s := ⟨_, rfl⟩
            rw [hs] at a0 a1 a2 HKD HNX
            dsimp only at a0 a1 a2 HKD
            clear hs
            have HC1 := hid (fun V => kindsOf_own HKD.out.1 HKD.out.2.1 V)
            have HC2 := hid (fun V => kindsOf_own HKD.out.2.2.1 HKD.out.2.2.2 V)
            obtain ⟨s1, hs1⟩ : ∃ s, kt sl = s := ⟨_, rfl⟩
            obtain ⟨s2, hs2⟩ : ∃ s, kt sk = s := ⟨_, rfl⟩
            rw [hs1] at a1 HC1
            rw [hs2] at a2 HC2
            clear hs1 hs2
            have HSL := hid HKD.out.2.1
            go_upto_region 7 with fail
            have HWA := hid ((Below.refl wr.heap.size wr).alloc (Nat.le_refl _) (.cells #[.int .i64 st, .string s1, .string s2] 64))
            have HWE : Hid ((wr.alloc (.cells #[.int .i64 st, .string s1, .string s2] 64)).heap[wr.heap.size]? = some (.cells #[.int .i64 st, .string s1, .string s2] 64)) := hid (heap_alloc_new _ _)
            obtain ⟨W1, hW1⟩ : ∃ W, wr.alloc (.cells #[.int .i64 st, .string s1, .string s2] 64) = W := ⟨_, rfl⟩
            rw [hW1] at HWA HWE ⊢
            clear hW1 a0 a1 a2
            have HG : Hid (∀ V, Below W1.heap.size W1 V → V.cell? ⟨wr.heap.size, 0, none⟩ = some (.int .i64 st) ∧ V.cell? ⟨wr.heap.size, 1, none⟩ = some (.string s1) ∧ V.cell? ⟨wr.heap.size, 2, none⟩ = some (.string s2)) := hid fun V hV => ⟨cell_of_row _ _ 0 _ _ (0, 0) (hp_next HWE.out hV), cell_of_row _ _ 1 _ _ (0, 0) (hp_next HWE.out hV), cell_of_row _ _ 2 _ _ (0, 0) (hp_next HWE.out hV)⟩
            obtain ⟨p6, m6, k6⟩ := HG.out _ (Below.refl _ _)
            have HOW1 := hid (own_next HNR.out.own HWA.out)
            have HSW : Hid (w4.heap.size ≤ W1.heap.size) := hid (Nat.le_trans HLO.out.size HWA.out.size)
            go_region_law (first
              | (refine step_enter rfl (f := 27) (vals := #[.string s1]) (by kernel_rfl) (HC1.out _) ?_; intro e w7 hq7; obtain ⟨g1, rfl, hg1, hi1, hb7⟩ := hq7; refine ⟨_, rfl, ?_⟩; have HB7 : Hid (Below W1.heap.size W1 w7) := hid ((Below.refl W1.heap.size W1).drew.trans hb7); have HI1 := hid (And.intro (show W1.heap.size ≤ g1 from hg1) hi1); obtain ⟨p7, m7, k7⟩ := HG.out _ HB7.out; clear hb7 hg1 hi1)
              | (refine step_enter rfl (f := 27) (vals := #[.string s2]) (by kernel_rfl) (HC2.out _) ?_; intro e w8 hq8; obtain ⟨g2, rfl, hg2, hi2, hb8⟩ := hq8; refine ⟨_, rfl, ?_⟩; have HB8 : Hid (Below W1.heap.size W1 w8) := hid (HB7.out.trans (hb8.mono HB7.out.size)); have HI2 := hid (And.intro hg2 hi2); have HI8 := hid (HI1.out.2.next hb8); have HS7 := hid hb8.size; obtain ⟨p8, m8, k8⟩ := HG.out _ HB8.out; have HB8A := hid (HB8.out.alloc HB8.out.size (.cells #[.int .i64 st, .slice (some ⟨g1, 0, none⟩) sl.length sl.length, .slice (some ⟨g2, 0, none⟩) sk.length sk.length] 43)); have HAA := hid ((Below.refl w8.heap.size w8).alloc (Nat.le_refl _) (.cells #[.int .i64 st, .slice (some ⟨g1, 0, none⟩) sl.length sl.length, .slice (some ⟨g2, 0, none⟩) sk.length sk.length] 43)); clear hb8 hg2 hi2)
              | (refine step_append_own_at rfl (.tmp 33) (.tmp 43) 34 rfl w4.heap.size 43 i0 (.agg #[.int .i64 0, .slice none 0 0, .slice none 0 0]) 3 56 Tryz.underlying34 HHI.out.1 HHI.out.2.1 HHI.out.2.2.1 HHI.out.2.2.2 rfl (by decide) (.slice av L.length cv0) L.length (cellsS L) (by simp [Act.eval]) (own_next HOW1.out HB8A.out) ⟨w8.heap.size, 0, none⟩ 1 1 [.int .i64 st, .slice (some ⟨g1, 0, none⟩) sl.length sl.length, .slice (some ⟨g2, 0, none⟩) sk.length sk.length] (by simp [Act.eval]) rfl (lit3 _ _ _ _) (one3 _ _ _ _ _) (by unfold maxLen; omega) (by omega) (Nat.le_trans HSW.out HB8A.out.size) ?_; intro v9 w9 o9 g9 _ _; have HO9 := hid o9; have HG9 := hid g9; obtain ⟨a9, c9, rfl⟩ := own_form3 o9; clear o9 g9))
            all_goals
              have HBX : Hid (Below wr.heap.size wr (w8.alloc (.cells #[.int .i64 st, .slice (some ⟨g1, 0, none⟩) sl.length sl.length, .slice (some ⟨g2, 0, none⟩) sk.length sk.length] 43))) := hid (HWA.out.trans (HB8A.out.mono HWA.out.size))
              have HN2 : Hid (NRow w4.heap.size w9 (.slice a9 (L.length + 1) c9) (L ++ [⟨⟨st, sl, sk⟩, g1, g2⟩])) := hid ((HNR.out.next HBX.out).more rfl HO9.out HG9.out (Nat.le_trans HSW.out HI1.out.1) (Nat.lt_of_lt_of_le HI1.out.2.lt HI2.out.1) (HI8.out.next HAA.out) (HI2.out.2.next HAA.out) (fun y hy => Nat.lt_of_lt_of_le (HNR.out.ins y hy).2.2.2.lt (Nat.le_trans HWA.out.size HI1.out.1)))
              have HLO2 : Hid (Below w4.heap.size w4 w9) := hid (grow3 (HLO.out.trans (HBX.out.mono HLO.out.size)) (own_next HOW1.out HB8A.out) (Nat.le_trans HSW.out HB8A.out.size) HG9.out)
              have HL2 : Hid ((L ++ [(⟨⟨st, sl, sk⟩, g1, g2⟩ : ShE)]).map ShE.s = (List.range (j + 1)).map A) := hid (by rw [List.map_append, HL.out, HNX.out]; rfl)
              go_wp2
              go_roundw
              case rel => exact ⟨j + 1, _, by omega, by go_num, HL2.out, HN2.out, HLO2.out⟩
              case measure => simp [intOf]; omega
          · obtain rfl : j = f.ins.length := by omega
            have HE9 : Hid (ShsEnd fns q w (.returned (.slice av L.length cv0)) wr) := hid ⟨_, L, rfl, HIS.out A HLS.out L HL.out, HNR.out.mono (HX4.out.lo.size), HX4.out.lo.trans (HLO.out.mono HX4.out.lo.size)⟩
            go_wp2
            go_ret
            exact HE9.out
  · have HE9 := hid (HNIL.out w2 HX.out.lo (fun h => hc0 (hp.uniq h.1).1))
    unfold flaw
    go_wp2_with fail
    go_ret
    exact HE9.out
end Go.Proofs.YtfedmbadhcdpdaaGreatDoor.C
