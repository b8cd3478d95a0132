import Derived.Test.YtpligndiomblhaaPlSpecL
/-! The place of a box. Printed by gen_plplace.py. -/
namespace Go.Proofs.Ytpligndiomblhaa.P
open Go.RowKit
open Go.Proofs.Ytpligndiomblhaa.R (hid small set_other Fl fl0 lt_hp hp_next B1 B2 row_cell row_room SFlR OkFlS below_drewN below_set info_parts info_Fl)
set_option maxRecDepth 20000
theorem step_append_own_at {P : Program} {ops : Array Oper} {o : Oper} {a : Act} {w : World} {K : Act → World → Prop} {Q : Exit → Act → World → Prop} {E : Prop} (hg : o.guard = none) (s x : Operand) (t : TypeId)
    (hop : o.op = Op.call { callee := Callee.builtin Builtin.append, args := #[s, x], argTypes := #[t, t] })
    (base : Nat) (e : TypeId) (i : TypeInfo) (z : Value) (size bytes : Nat) (ht : P.underlying t = some (.slice e)) (hi : P.info? e = some i) (hz : i.zero = some z)
    (hsize : i.size = size) (hby : i.bytes = bytes) (hzs : z.cells.size = size) (hsz : 0 < size)
    (v : Value) (n : Nat) (xs : List Value) (hs : a.eval s = v) (hown : w.ownsRow base e size v n xs)
    (ad : Addr) (m c : Nat) (news : List Value) (hx : a.eval x = .slice (some ad) m c) (hl : news.length = m * size) (hnews : ∀ j u, news[j]? = some u → w.cell? (ad.add j) = some u) (h1 : ∀ u ∈ news, u.oneCell' = true)
    (h63 : n + m ≤ maxLen) (hbytes : (n + m) * bytes ≤ 140737488355328) (hbase : base ≤ w.heap.size)
    (h : ∀ v' w', w'.ownsRow base e size v' (n + m) (xs ++ news) → w.grownBy w' v.ownBlock → (v' = .slice none 0 0 ↔ v = .slice none 0 0 ∧ m = 0) → (v'.ownBlock = v.ownBlock ∨ v'.ownBlock = some w.heap.size) → K (a.put o.dst v') w') :
    if Region.wanted o (yielded ops a.tmps) = true then Oper.wp P o a w K Q else E := by
  have hw : Region.wanted o (yielded ops a.tmps) = true := by simp [Region.wanted, hg]
  rw [if_pos hw]
  obtain ⟨v', w', hr, h2, h3, h4, h5⟩ := run_append_own_at (P := P) w base t o.type e i z size bytes ht hi hz hsize hby hzs hsz v n xs hown ad m c news hl hnews h1 h63 hbytes hbase
  unfold Oper.wp
  simp [execOp, hop, resolve, invoke, builtin, hs, hx, hr, Result.andThen]
  exact h v' w' h2 h3 h4 h5
theorem own_tyF {W : World} {B n : Nat} {v : Value} {xs : List Value} {g : Nat} {cs : Array Value} (h : W.ownsRow B 55 2 v n xs) (hg : W.heap[g]? = some (.cells cs 29)) : some g ≠ v.ownBlock := fun e => by
  obtain ⟨_, ⟨rfl, _⟩ | ⟨g', cap, cur, rfl, _, hc, _⟩⟩ := h
  · cases e
  · simp [Value.ownBlock] at e
    subst e
    rw [hc] at hg
    cases hg
/-- The place while it is made: two boxes. -/
structure PW (w : World) (v : Value) (W : World) : Prop where
  lo : Below w.heap.size w W
  r : W.heap[w.heap.size]? = some (.cells #[.slice none 0 0] 29)
  p : W.heap[w.heap.size + 1]? = some (.cells #[v] 29)
theorem PW.grown {w W V U : World} {v u : Value} {n : Nat} {xs : List Value} (h : PW w v W) (hb : Below W.heap.size W V) (ho : V.ownsRow w.heap.size 55 2 u n xs) (hg : V.grownBy U u.ownBlock) : Below w.heap.size w U ∧ U.heap[w.heap.size]? = some (.cells #[.slice none 0 0] 29) ∧ U.heap[w.heap.size + 1]? = some (.cells #[v] 29) := by
  have hr := hp_next h.r hb
  have hp := hp_next h.p hb
  have hl := h.lo.trans (hb.mono h.lo.size)
  exact ⟨grow_lo hl ho hl.size hg, (hg.block _ (lt_hp hr) (own_tyF ho hr)).trans hr, (hg.block _ (lt_hp hp) (own_tyF ho hp)).trans hp⟩
set_option maxHeartbeats 8000000 in
theorem place_any {B b : Nat} {ns : List ByteArray} {f : ByteArray → Option Fl} {k m : Nat} {v : Value} {w : World} (h : Bx B b ns f k v m w) (hN : ns.length ≤ 1000) (hn : ∀ n ∈ ns, n.size ≤ 1048576 ∧ (fileOf f n).text.size ≤ 1048576) :
    Calls Try.prog 47 #[.pointer (some ⟨b, 0, none⟩)] w fun e w' => ∃ v', e = .returned (.agg #[v']) ∧ OwnF w.heap.size w' v' (ns.map (fileOf f)) ∧ Below w.heap.size w w' := by
  have HM := hid hn
  obtain ⟨ad, c, rfl⟩ := own_form h.own
  have HBX := hid h
  clear h hn
  obtain ⟨i0, hi, hz0, hz1, hz2⟩ := info_parts info_Fl
  have HHI := hid (And.intro hi (And.intro hz0 (And.intro hz1 hz2)))
  clear hi hz0 hz1 hz2
  have HS := hid (B2.start w (.cells #[.slice none 0 0] 29) (.cells #[.slice none 0 0] 29))
  go_enter Try.func47, Try.ntmps47
  go_upto_region 2 with fail
  obtain ⟨W0, hW0⟩ : ∃ W, (w.alloc (.cells #[.slice none 0 0] 29)).alloc (.cells #[.slice none 0 0] 29) = W := ⟨_, rfl⟩
  rw [hW0] at HS ⊢
  clear hW0
  have k0 : W0.cell? ⟨b, 0, none⟩ = some (.slice ad ns.length c) := row_cell (HBX.out.next HS.out.lo).e 0
  go_wp2
  clear k0
  go_loopw [5, 11] (fun _ i wr => ∃ (j : Nat) (v : Value), j ≤ ns.length ∧ i = .int .i64 j ∧ PW w v wr ∧ OwnF w.heap.size wr v ((ns.take j).map (fileOf f))) (fun _ i _ => ns.length - (intOf i).toNat)
  case atStart => exact ⟨0, _, Nat.zero_le _, rfl, ⟨HS.out.lo, HS.out.e, HS.out.f⟩, own_nil _ _⟩
  case round =>
    obtain ⟨j, v, hj, rfl, hpw, how⟩ := hrel
    have HPW := hid hpw
    obtain ⟨O, hO⟩ : ∃ O, (ns.take j).map (fileOf f) = O := ⟨_, rfl⟩
    have HOE := hid hO
    have hln : O.length ≤ 1000 := by rw [← hO, List.length_map, List.length_take]; omega
    rw [hO] at how
    have HOW := hid how
    obtain ⟨av, cv, rfl⟩ := own_form2 how
    clear how hpw hO HS
    by_cases hlt : j < ns.length
    · obtain ⟨g, hge, a0⟩ := own_cell (HBX.out.next HPW.out.lo).own hlt
      subst hge
      have HSN := hid (HM.out (ns.getD j ⟨#[]⟩) (by rw [List.getD_eq_getElem?_getD, List.getElem?_eq_getElem hlt]; exact List.getElem_mem hlt))
      have HNX : Hid ((ns.take (j + 1)).map (fileOf f) = O ++ [fileOf f (ns.getD j ⟨#[]⟩)]) := hid (by rw [take_nextB hlt, List.map_append, HOE.out]; rfl)
      obtain ⟨n, hne⟩ : ∃ n, ns.getD j ⟨#[]⟩ = n := ⟨_, rfl⟩
      rw [hne] at a0 HSN HNX
      clear hne
      obtain ⟨⟨nf, tf⟩, hff⟩ : ∃ x, (f n).getD fl0 = x := ⟨_, rfl⟩
      have hft : fileOf f n = ⟨n, tf⟩ := by unfold fileOf; rw [hff]
      rw [hft] at HNX HSN
      have HCN : Hid (∀ V, Calls Try.prog 51 #[.string n] V fun e w' => e = .returned (.string n) ∧ Below V.heap.size V w') := hid fun V => clone_any n V HSN.out.1
      have HCT : Hid (∀ V, Calls Try.prog 51 #[.string tf] V fun e w' => e = .returned (.string tf) ∧ Below V.heap.size V w') := hid fun V => clone_any tf V HSN.out.2
      have HG : Hid (∀ V, Below wr.heap.size wr V → V.cell? ⟨w.heap.size + 1, 0, none⟩ = some (.slice av O.length cv) ∧ V.cell? ⟨b, 1, none⟩ = some (.map (some m)) ∧ (Instr.lookup 80 (.map (some m)) (.string n) false).run Try.prog V = .ok (.agg #[.string nf, .string tf]) V ∧ True) := hid fun V hV => by
        have hbx := (HBX.out.next HPW.out.lo).next hV
        have h1 := hbx.mp.get1 n (by have := HSN.out.1; unfold maxLen; omega)
        rw [hff] at h1
        exact ⟨row_cell (hp_next HPW.out.p hV) 0, row_cell hbx.e 1, h1, trivial⟩
      clear hff hft
      obtain ⟨p6, m6, _, _⟩ := HG.out _ (Below.refl _ _)
      obtain ⟨_, _, k6, _⟩ := HG.out _ (Below.refl _ _).drew
      have hfd : ∀ W, (Instr.field 55 (.agg #[.string nf, .string tf]) 1).run Try.prog W = .ok (.string tf) W := fun W => by kernel_rfl
      go_upto_region 5 with fail
      go_region_law (first
        | (refine step_enter rfl (f := 51) (vals := #[.string n]) (by kernel_rfl) (HCN.out _) ?_; intro e w7 hq7; obtain ⟨rfl, hb7⟩ := hq7; refine ⟨_, rfl, ?_⟩; have HB7 : Hid (Below wr.heap.size wr w7) := hid ((Below.refl wr.heap.size wr).drew.trans hb7); obtain ⟨p7, m7, k7, _⟩ := HG.out _ HB7.out; clear hb7)
        | (refine step_enter rfl (f := 51) (vals := #[.string tf]) (by kernel_rfl) (HCT.out _) ?_; intro e w8 hq8; obtain ⟨rfl, hb8⟩ := hq8; refine ⟨_, rfl, ?_⟩; have HB8 : Hid (Below wr.heap.size wr w8) := hid (HB7.out.trans (hb8.mono HB7.out.size)); obtain ⟨p8, _, _, _⟩ := HG.out _ HB8.out; have HB8A := hid (HB8.out.alloc HB8.out.size (.cells #[.string n, .string tf] 55)); obtain ⟨p8a, _, _, _⟩ := HG.out _ HB8A.out; clear hb8)
        | (refine step_append_own_at rfl (.tmp 16) (.tmp 28) 27 rfl w.heap.size 55 i0 (.agg #[.string ⟨#[]⟩, .string ⟨#[]⟩]) 2 32 Try.underlying27 HHI.out.1 HHI.out.2.1 HHI.out.2.2.1 HHI.out.2.2.2 rfl (by decide) (.slice av O.length cv) O.length (cellsF O) (by simp [Act.eval]) (own_next HOW.out HB8A.out) ⟨w8.heap.size, 0, none⟩ 1 1 [.string n, .string tf] (by simp [Act.eval]) rfl (lit_cells _ n tf) (oneC _ _) (by unfold maxLen; omega) (by omega) (Nat.le_trans HPW.out.lo.size HB8A.out.size) ?_; intro v9 w9 o9 g9 _ _; have HO9 := hid o9; have HG9 := hid g9; have HQ9 := hid (HPW.out.grown HB8A.out (own_next HOW.out HB8A.out) g9); obtain ⟨a9, c9, rfl⟩ := own_form2 o9; have q9 := row_cell HQ9.out.2.2 0; have z9 := frozen_hp HQ9.out.2.2 0; clear o9 g9))
      all_goals
        have HN2 : Hid (PW w (.slice a9 (O.length + 1) c9) (w9.setCell ⟨w.heap.size + 1, 0, none⟩ (.slice a9 (O.length + 1) c9)) ∧ OwnF w.heap.size (w9.setCell ⟨w.heap.size + 1, 0, none⟩ (.slice a9 (O.length + 1) c9)) (.slice a9 (O.length + 1) c9) ((ns.take (j + 1)).map (fileOf f))) := hid ⟨⟨below_set HQ9.out.1 _ _ (by omega) _, (set_other _ _ _ _ _ (by omega)).trans HQ9.out.2.1, R.set_at _ HQ9.out.2.2⟩, by rw [HNX.out]; exact own_set2 (own_more (x := ⟨n, tf⟩) HO9.out rfl) HQ9.out.2.2⟩
        go_wp2
        go_roundw
        case rel => exact ⟨j + 1, _, by omega, by go_num, HN2.out.1, HN2.out.2⟩
        case measure => simp [intOf]; omega
    · obtain rfl : j = ns.length := by omega
      rw [List.take_length] at HOE
      have p0 : wr.cell? ⟨w.heap.size + 1, 0, none⟩ = some (.slice av O.length cv) := row_cell HPW.out.p 0
      have f0 : wr.cell? ⟨w.heap.size, 0, none⟩ = some (.slice none 0 0) := row_cell HPW.out.r 0
      have f1 : wr.frozen? ⟨w.heap.size, 0, none⟩ = false := frozen_hp HPW.out.r 0
      have r0 : (wr.setCell ⟨w.heap.size, 0, none⟩ (.slice av O.length cv)).cell? ⟨w.heap.size, 0, none⟩ = some (.slice av O.length cv) := (row_cell (R.set_at (i := 0) _ HPW.out.r) 0).trans rfl
      have HE : Hid (OwnF w.heap.size (wr.setCell ⟨w.heap.size, 0, none⟩ (.slice av O.length cv)) (.slice av O.length cv) (ns.map (fileOf f)) ∧ Below w.heap.size w (wr.setCell ⟨w.heap.size, 0, none⟩ (.slice av O.length cv))) := hid ⟨by rw [HOE.out]; exact own_set2 HOW.out HPW.out.r, below_set HPW.out.lo _ _ (Nat.le_refl _) _⟩
      go_wp2
      exact bodyPost_ret (v := .agg #[.slice av O.length cv]) (by simp [results, Try.results47, go_sem, r0]) rfl ⟨_, rfl, HE.out.1, HE.out.2⟩
end Go.Proofs.Ytpligndiomblhaa.P
