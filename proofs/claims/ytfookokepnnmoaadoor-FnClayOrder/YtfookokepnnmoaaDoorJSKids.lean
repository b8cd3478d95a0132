import Derived.Maps.AppendAt
import Derived.Deep.RegionLaw
import Derived.Test.YtfookokepnnmoaaDoorJQuiet
namespace Go.Proofs.YtfookokepnnmoaaDoor
open Go.RowKit
set_option maxRecDepth 20000
/-- 'append' to a row of the call's own, as one step of a region that draws its order. -/
theorem step_append_own_at {P : Program} {ops : Array Oper} {o : Oper} {a : Act} {w : World} {K : Act → World → Prop} {Q : Exit → Act → World → Prop} {E : Prop} (hg : o.guard = none) (s x : Operand) (t : TypeId)
    (hop : o.op = Op.call { callee := Callee.builtin Builtin.append, args := #[s, x], argTypes := #[t, t] })
    (base : Nat) (e : TypeId) (i : TypeInfo) (z : Value) (size bytes : Nat) (ht : P.underlying t = some (.slice e)) (hi : P.info? e = some i) (hz : i.zero = some z)
    (hsize : i.size = size) (hby : i.bytes = bytes) (hzs : z.cells.size = size) (hsz : 0 < size)
    (v : Value) (n : Nat) (xs : List Value) (hs : a.eval s = v) (hown : w.ownsRow base e size v n xs)
    (ad : Addr) (m c : Nat) (news : List Value) (hx : a.eval x = .slice (some ad) m c) (hl : news.length = m * size) (hnews : ∀ j u, news[j]? = some u → w.cell? (ad.add j) = some u) (h1 : ∀ u ∈ news, u.oneCell' = true)
    (h63 : n + m ≤ maxLen) (hbytes : (n + m) * bytes ≤ 140737488355328) (hbase : base ≤ w.heap.size)
    (h : ∀ v' w', w'.ownsRow base e size v' (n + m) (xs ++ news) → w.grownBy w' v.ownBlock → (v' = .slice none 0 0 ↔ v = .slice none 0 0 ∧ m = 0) → (v'.ownBlock = v.ownBlock ∨ v'.ownBlock = some w.heap.size) → K (a.put o.dst v') w') :
    if Region.wanted o (yielded ops a.tmps) = true then Oper.wp P o a w K Q else E := by
  have hw : Region.wanted o (yielded ops a.tmps) = true := by simp [Region.wanted, hg]
  rw [if_pos hw]
  obtain ⟨v', w', hr, h2, h3, h4, h5⟩ := run_append_own_at (P := P) w base t o.type e i z size bytes ht hi hz hsize hby hzs hsz v n xs hown ad m c news hl hnews h1 h63 hbytes hbase
  unfold Oper.wp
  simp [execOp, hop, resolve, invoke, builtin, hs, hx, hr, Result.andThen]
  exact h v' w' h2 h3 h4 h5
theorem no_flat {l : List At} {j : Nat} {s : List Tr} {x : At} (hs : stk [] (l.take j) = some s) (hx : l[j]? = some x) (hp : push s x = none) (t : Tr) : ¬ l = flat t := by
  rintro rfl
  have hl := (List.getElem?_eq_some_iff.1 hx).1
  have e : flat t = (flat t).take j ++ (x :: (flat t).drop (j + 1)) := by
    rw [← (List.getElem?_eq_some_iff.1 hx).2, ← List.drop_eq_getElem_cons hl, List.take_append_drop]
  have h := stk_one.2 (rfl : flat t = flat t)
  rw [e, stk_append, hs, Option.bind_some] at h
  simp only [stk, hp] at h
  cases h
theorem not_flat {l : List At} {s : List Tr} (hs : stk [] l = some s) (hn : ¬ s.length = 1) (t : Tr) : ¬ l = flat t := by
  rintro rfl
  rw [stk_one.2 rfl] at hs
  cases hs
  exact hn rfl
/-- The kids of a value, as values over one row: the atoms lie in block b from place o on, p atoms ahead. -/
def kidRow (b o cap : Nat) : Nat → List Tr → List Value
  | _, [] => []
  | p, t :: ts => .slice (some ⟨b, o + p * 4, none⟩) (flat t).length (cap - p) :: kidRow b o cap (p + (flat t).length) ts
theorem kidRow_length (b o cap p : Nat) (ks : List Tr) : (kidRow b o cap p ks).length = ks.length := by
  induction ks generalizing p with
  | nil => rfl
  | cons t ks ih => simp [kidRow, ih]
theorem kidRow_append (b o cap p : Nat) (a c : List Tr) : kidRow b o cap p (a ++ c) = kidRow b o cap p a ++ kidRow b o cap (p + (flats a).length) c := by
  induction a generalizing p with
  | nil => simp [kidRow, flats]
  | cons t a ih => simp [kidRow, flats, ih, Nat.add_assoc]
theorem kidRow_snoc (b o cap p : Nat) (ks : List Tr) (q : Nat) (h : q < ks.length) : kidRow b o cap p (ks.take (q + 1)) = kidRow b o cap p (ks.take q) ++ [.slice (some ⟨b, o + (p + (flats (ks.take q)).length) * 4, none⟩) (flat ks[q]).length (cap - (p + (flats (ks.take q)).length))] := by
  rw [List.take_succ_eq_append_getElem h, kidRow_append]
  rfl
theorem kidRow_get (b o cap p : Nat) (ks : List Tr) (q : Nat) (h : q < ks.length) : (kidRow b o cap p ks)[q]? = some (.slice (some ⟨b, o + (p + (flats (ks.take q)).length) * 4, none⟩) (flat ks[q]).length (cap - (p + (flats (ks.take q)).length))) := by
  have e : ks = ks.take q ++ (ks[q] :: ks.drop (q + 1)) := by rw [← List.drop_eq_getElem_cons h, List.take_append_drop]
  conv => lhs; rw [e]
  rw [kidRow_append, List.getElem?_append_right (by rw [kidRow_length, List.length_take]; omega), kidRow_length, List.length_take, Nat.min_eq_left (by omega), Nat.sub_self]
  simp [kidRow]
theorem info_val : (Tryd.prog.info? 25).map (fun i => (i.zero, i.size, i.bytes)) = some (some (.agg #[.slice none 0 0]), 1, 24) := by kernel_rfl
set_option maxHeartbeats 400000 in
theorem l5Last_any (b o N cap : Nat) (x : At) (w : World) (hN0 : 1 ≤ N) (hN : N ≤ 1048576) (hb : b < w.heap.size) (hx : FourAt w b (o + (N - 1) * 4) x) :
    Calls Tryd.prog 29 #[.agg #[.slice (some ⟨b, o, none⟩) N cap]] w fun e w' => e = .returned (atV x) ∧ Below w.heap.size w w' := by
  have HB := hid (below_two' w (.cells #[.slice (some ⟨b, o, none⟩) N cap] 25) (.cells #[.int .i64 0, .int .i64 0, .string ⟨#[]⟩, .int .i64 0] 51))
  obtain ⟨c0, c1, c2, c3⟩ := hx.below HB.out hb
  clear hx
  unfold atV
  go_enter Tryd.func29, Tryd.ntmps29
  go_wp2
  refine bodyPost_ret (v := .agg #[.int .i64 x.kind, .int .i64 x.n, .string x.text, .int .i64 x.kids]) ?_ rfl ⟨rfl, below_two' _ _ _⟩
  simp [results, Tryd.results29, go_sem]
/-- What l5Kids hands back. -/
def KidsEnd (b o cap : Nat) (l : List At) (w w' : World) (e : Ending) : Prop :=
  Below w.heap.size w w' ∧ ((∃ v, e = .returned (.tuple #[v, .bool false]) ∧ ∀ t, ¬ l = flat t) ∨
    ∃ k n t ks go co, e = .returned (.tuple #[.slice (some ⟨go, 0, none⟩) ks.length co, .bool true]) ∧ l = flat (.node k n t ks) ∧ w.heap.size ≤ go ∧ RowAt w' 25 go co ks.length (kidRow b o cap 0 ks))
/-- What the loop of l5Kids holds behind j atoms. -/
structure SInv (l : List At) (B : Nat) (W0 W : World) (j : Nat) (s : List Tr) (gs cs : Nat) : Prop where
  st : stk [] (l.take j) = some s
  row : RowAt W 3 gs cs s.length (intRow (begs 0 s))
  base : B ≤ gs
  below : Below B W0 W
theorem SInv_len {l : List At} {B : Nat} {W0 W : World} {j : Nat} {s : List Tr} {gs cs : Nat} (h : SInv l B W0 W j s gs cs) (hj : j ≤ l.length) : (flats s).length = j ∧ s.length ≤ j := by
  have h1 := stk_sound h.st
  simp only [flats, List.nil_append] at h1
  have h2 : (flats s).length = j := by rw [h1, List.length_take]; omega
  exact ⟨h2, by have := flats_len_ge s; omega⟩
theorem SInv_cell {W : World} {sp sk : List Tr} {gs cs : Nat} (h : RowAt W 3 gs cs (sp ++ sk).length (intRow (begs 0 (sp ++ sk)))) (q : Nat) (hq : q < sk.length) : W.cell? ⟨gs, sp.length + q, none⟩ = some (.int .i64 (((flats sp).length + (flats (sk.take q)).length : Nat) : Int)) := by
  rw [h.cell (sp.length + q) (by rw [List.length_append]; omega)]
  unfold intRow
  rw [List.getElem?_map, begs_get 0 _ _ (by rw [List.length_append]; omega), List.take_append, List.take_of_length_le (by omega), Nat.add_sub_cancel_left, flats_append]
  simp
theorem SInv_front {W : World} {sp sk : List Tr} {gs cs : Nat} (h : RowAt W 3 gs cs (sp ++ sk).length (intRow (begs 0 (sp ++ sk)))) : RowAt W 3 gs cs sp.length (intRow (begs 0 sp)) := by
  rw [begs_append, intRow_append] at h
  have := h.front
  rwa [intRow_length, begs_length] at this
theorem SInv_step {l : List At} {B : Nat} {W0 W w3 : World} {j P : Nat} {sp sk : List Tr} {x : At} {gs cs : Nat} {X : Obj} {v3 : Value} (h : SInv l B W0 W j (sp ++ sk) gs cs) (hx : l[j]? = some x) (hk : x.kids = sk.length) (hP : (flats sp).length = P) (hB : B ≤ W.heap.size)
    (o3 : w3.ownsRow B 3 1 v3 (sp.length + 1) (intRow (begs 0 sp) ++ [.int .i64 P])) (g3 : (W.alloc X).grownBy w3 (some gs)) (n3 : ¬ v3 = .slice none 0 0) :
    ∃ s' gs' cs', v3 = .slice (some ⟨gs', 0, none⟩) s'.length cs' ∧ SInv l B W0 w3 (j + 1) s' gs' cs' := by
  obtain ⟨r3, d3, rfl, rb3, rr3⟩ := RowAt.of_own o3 n3
  refine ⟨sp ++ [.node x.kind x.n x.text sk], r3, d3, by simp, ?_, ?_, rb3, ?_⟩
  · have hl := (List.getElem?_eq_some_iff.1 hx).1
    rw [List.take_succ_eq_append_getElem hl, (List.getElem?_eq_some_iff.1 hx).2, stk_snoc _ _ _ _ h.st]
    exact push_good sp sk x hk
  · rw [begs_append, intRow_append, List.length_append, Nat.zero_add, hP]
    exact rr3
  · exact (h.below.alloc hB X).grown g3 (by simp; omega) (fun q e => by injection e with e; exact e ▸ h.base)
set_option maxHeartbeats 2000000 in
theorem l5Kids_any (b o N cap : Nat) (l : List At) (w : World) (hl : l.length = N) (hcap : N ≤ cap) (hcm : N ≤ 1048576 ∧ cap ≤ 9223372036854775807) (hb : b < w.heap.size) (hn : AtomsAt w b o l) :
    Calls Tryd.prog 39 #[.agg #[.slice (some ⟨b, o, none⟩) N cap]] w fun e w' => KidsEnd b o cap l w w' e := by
  have HN := hid hn
  have HL := hid hl
  clear hn hl
  obtain ⟨i0, hi, hz0, hz1, hz2⟩ := info_parts info_int
  have HHI := hid (And.intro hi (And.intro hz0 (And.intro hz1 hz2)))
  clear hi hz0 hz1 hz2
  obtain ⟨i1, hi, hz0, hz1, hz2⟩ := info_parts info_val
  have HHV := hid (And.intro hi (And.intro hz0 (And.intro hz1 hz2)))
  clear hi hz0 hz1 hz2
  go_enter Tryd.func39, Tryd.ntmps39
  go_wp2
  go_loopw [4, 5] (fun vs i wr => ∃ (j : Nat) (s : List Tr) (gs cs : Nat), (j < N ∨ j = 0 ∧ N = 0) ∧ i = .int .i64 j ∧ vs = .slice (some ⟨gs, 0, none⟩) s.length cs ∧
      SInv l (w.heap.size + 1) (w.alloc (.cells #[.slice (some ⟨b, o, none⟩) N cap] 25)) wr j s gs cs) (fun _ i _ => N - (intOf i).toNat)
  case atStart =>
    refine ⟨0, [], w.heap.size + 1, 0, by omega, rfl, rfl, rfl, ?_, Nat.le_refl _, ?_⟩
    · refine ⟨rfl, Nat.le_refl _, by unfold maxLen; omega, #[], ?_, rfl, rfl⟩
      have := heap_alloc_new (w.alloc (.cells #[.slice (some ⟨b, o, none⟩) N cap] 25)) (.cells #[] 3)
      rwa [World.size_alloc] at this
    · exact (Below.refl _ _).alloc (by simp) _
  case round =>
    obtain ⟨j, s, gs, cs, hj, rfl, rfl, hinv⟩ := hrel
    have HI := hid hinv
    have t0 := tree_cell hinv.below
    clear hinv
    by_cases hlt : j < N
    · have hjl : j < l.length := by rw [HL.out]; exact hlt
      obtain ⟨x, hx⟩ : ∃ x, l[j]? = some x := ⟨_, List.getElem?_eq_getElem hjl⟩
      have HX := hid hx
      obtain ⟨_, _, _, a3⟩ := (HN.out.below (btree HI.out.below) hb) j x hx
      obtain ⟨hfl, hsl⟩ := SInv_len HI.out (by omega)
      have HFL := hid hfl
      clear hx hfl
      by_cases hok : 0 ≤ x.kids ∧ x.kids ≤ s.length
      · obtain ⟨k, hk⟩ := Int.eq_ofNat_of_zero_le hok.1
        have hks : k ≤ s.length := by omega
        clear hok
        obtain ⟨sp, sk, hs, hsk⟩ : ∃ sp sk, s = sp ++ sk ∧ sk.length = k := ⟨s.take (s.length - k), s.drop (s.length - k), (List.take_append_drop _ _).symm, by simp; omega⟩
        subst hs
        obtain ⟨p, hp⟩ : ∃ p, sp.length = p := ⟨_, rfl⟩
        have hpk : (sp ++ sk).length = p + k := by rw [List.length_append, hp, hsk]
        have HK := hid hk
        rw [hk] at a3
        rw [hpk] at hks hsl ⊢
        obtain ⟨P, hP⟩ : ∃ P, (flats sp).length = P := ⟨_, rfl⟩
        have hBz : w.heap.size + 1 ≤ wr.heap.size := by have := HI.out.below.size; simpa using this
        have hcs : p + k ≤ cs := by have := HI.out.row.2.1; omega
        have hgs := HI.out.row.lt
        have R3 : Hid (RowAt wr 3 gs cs p (intRow (begs 0 sp))) := by
          have := SInv_front HI.out.row
          rw [hp] at this
          exact this
        have HP := hid hP
        have HSK := hid hsk
        have HPP := hid hp
        clear hP hp
        by_cases hlast : j = N - 1
        · have hl1 : ((j : Int) == (N : Int) - 1) = true := by simp; omega
          have hl2 : N ≤ j + 1 := by omega
          clear hlast
          go_wp2
          go_loopw [7, 8] (fun vo i w2 => ∃ (q go co : Nat), q ≤ k ∧ i = .int .i64 q ∧ vo = .slice (some ⟨go, 0, none⟩) q co ∧ RowAt w2 25 go co q (kidRow b o cap P (sk.take q)) ∧ w.heap.size + 1 ≤ go ∧ go ≠ gs ∧ RowAt w2 3 gs cs (sp ++ sk).length (intRow (begs 0 (sp ++ sk))) ∧ Below (w.heap.size + 1) (w.alloc (.cells #[.slice (some ⟨b, o, none⟩) N cap] 25)) w2) (fun _ i _ => k - (intOf i).toNat)
          case atStart =>
            refine ⟨0, wr.heap.size, 0, Nat.zero_le _, rfl, rfl, ?_, hBz, by omega, HI.out.row.alloc _, HI.out.below.alloc hBz _⟩
            exact ⟨rfl, Nat.le_refl _, by unfold maxLen; omega, #[], heap_alloc_new _ _, rfl, rfl⟩
          case round =>
            obtain ⟨q, go, co, hq, rfl, rfl, hro, hgo, hne, hrs, hbl⟩ := hrel
            have HRO := hid hro
            have HRS := hid hrs
            have HBL := hid hbl
            have t1 := tree_cell hbl
            clear hro hrs hbl
            by_cases hqk : q < k
            · have hqs : q < sk.length := by rw [HSK.out]; exact hqk
              obtain ⟨A, hA⟩ : ∃ A, (flats sp).length + (flats (sk.take q)).length = A := ⟨_, rfl⟩
              obtain ⟨n, hn⟩ : ∃ n, (flat sk[q]).length = n := ⟨_, rfl⟩
              have s1 := SInv_cell HRS.out q hqs
              rw [HPP.out, hA] at s1
              have hA2 : P + (flats (sk.take q)).length = A := by rw [← HP.out]; exact hA
              have hn1 : 1 ≤ n := by rw [← hn]; exact flat_pos _
              have hEj : A + n ≤ j := by
                have h1 := HFL.out
                have h2 := flats_take_le sk (q + 1)
                rw [flats_take_succ sk q hqs, List.length_append, hn] at h2
                rw [flats_append, List.length_append] at h1
                omega
              have KSTEP : Hid (∀ E, E - A = n → ∀ w3 v3, w3.ownsRow (w.heap.size + 1) 25 1 v3 (q + 1) (kidRow b o cap P (sk.take q) ++ [.slice (some ⟨b, o + A * 4, none⟩) (E - A) (cap - A)]) → (wr.alloc (.cells #[.slice (some ⟨b, o + A * 4, none⟩) (E - A) (cap - A)] 25)).grownBy w3 (some go) → ¬ v3 = .slice none 0 0 → (v3.ownBlock = some go ∨ v3.ownBlock = some (wr.alloc (.cells #[.slice (some ⟨b, o + A * 4, none⟩) (E - A) (cap - A)] 25)).heap.size) →
                  ∃ go' co', v3 = .slice (some ⟨go', 0, none⟩) (q + 1) co' ∧ RowAt w3 25 go' co' (q + 1) (kidRow b o cap P (sk.take (q + 1))) ∧ w.heap.size + 1 ≤ go' ∧ go' ≠ gs ∧ RowAt w3 3 gs cs (sp ++ sk).length (intRow (begs 0 (sp ++ sk))) ∧ Below (w.heap.size + 1) (w.alloc (.cells #[.slice (some ⟨b, o, none⟩) N cap] 25)) w3) := fun E hE w3 v3 o3 g3 n3 b3 => by
                have hz : w.heap.size + 1 ≤ wr.heap.size := by have := HBL.out.size; simpa using this
                obtain ⟨r3, d3, rfl, rb3, rr3⟩ := RowAt.of_own o3 n3
                refine ⟨r3, d3, rfl, ?_, rb3, ?_, ?_, ?_⟩
                · rw [kidRow_snoc b o cap P sk q hqs, hA2, hn, ← hE]
                  exact rr3
                · have hgl := HRS.out.lt
                  simp only [Value.ownBlock, Option.some.injEq, World.size_alloc] at b3
                  omega
                · exact (HRS.out.alloc _).grown g3 (fun e => by injection e with e; exact hne e)
                · exact (HBL.out.alloc hz _).grown g3 (by simp; omega) (fun q e => by injection e with e; exact e ▸ hgo)
              have hgsz : gs < wr.heap.size := HRS.out.lt
              have hwz : w.heap.size + 1 ≤ wr.heap.size := by have := HBL.out.size; simpa using this
              have HNN := hid hn
              clear hA hn
              have hw1 : IntKind.i64.wrap (p : Int) = p := by rw [IntKind.wrap_i64]; omega
              have hw2 : IntKind.i64.wrap ((p : Int) + (q : Int)) = (p : Int) + q := by rw [IntKind.wrap_i64]; omega
              have hpq0 : 0 ≤ (p : Int) + (q : Int) := by omega
              have hpqn : ((p : Int) + (q : Int)).toNat = p + q := by omega
              by_cases hq1 : q + 1 < k
              · have s2 := SInv_cell HRS.out (q + 1) (by rw [HSK.out]; exact hq1)
                obtain ⟨E, hE⟩ : ∃ E, (flats sp).length + (flats (sk.take (q + 1))).length = E := ⟨_, rfl⟩
                rw [HPP.out, hE, ← Nat.add_assoc] at s2
                rw [flats_take_succ sk q hqs, List.length_append, HNN.out, HP.out] at hE
                have HEN : Hid (E - A = n) := by show _ = _; omega
                have hAE : A < E := by omega
                have hEj2 : E ≤ j := by omega
                have hEc : E ≤ cap := by omega
                have hAE2 : A ≤ E := by omega
                have hcA : ¬ cap = A := by omega
                clear hE
                go_wp2
                go_region_law (refine step_append_own_at rfl (.tmp 61) (.tmp 76) 81 rfl (w.heap.size + 1) 25 i1 (.agg #[.slice none 0 0]) 1 24 Tryd.underlying81 HHV.out.1 HHV.out.2.1 HHV.out.2.2.1 HHV.out.2.2.2 rfl (by decide) (.slice (some ⟨go, 0, none⟩) q co) q (kidRow b o cap P (sk.take q)) (by simp [Act.eval]) (by exact (HRO.out.alloc _).own hgo) ⟨wr.heap.size, 0, none⟩ 1 1 [.slice (some ⟨b, o + A * 4, none⟩) (E - A) (cap - A)] (by simp [Act.eval]) rfl (by exact cell_one_new wr _ _) (by simp [Value.oneCell']) (by unfold maxLen; omega) (by omega) (by simp; omega) ?_; intro v5 w5 o5 g5 nn5 b5; have G5 : Hid ((wr.alloc (.cells #[.slice (some ⟨b, o + A * 4, none⟩) (E - A) (cap - A)] 25)).grownBy w5 (some go)) := ⟨g5.os, g5.tape, g5.output, g5.size, g5.block⟩; have ST := hid (KSTEP.out E HEN.out w5 v5 o5 G5.out (some_not_nil nn5) b5); clear o5 g5 nn5 b5 G5)
                all_goals
                  go_wp2
                  go_roundw
                  case rel =>
                    obtain ⟨go', co', e1, r1, r2, r3, r4, r5⟩ := ST.out
                    exact ⟨q + 1, go', co', by omega, by go_num, e1, r1, r2, r3, r4, r5⟩
                  case measure => simp [intOf]; omega
              · obtain ⟨E, hE⟩ : ∃ E, j = E := ⟨_, rfl⟩
                have hjn : A + n = j := by
                  have h1 := HFL.out
                  have h2 : sk.take (q + 1) = sk := List.take_of_length_le (by rw [HSK.out]; omega)
                  have h3 := flats_take_succ sk q hqs
                  rw [h2] at h3
                  rw [flats_append, List.length_append, h3, List.length_append, HNN.out, HP.out] at h1
                  omega
                subst hE
                have HEN : Hid (j - A = n) := by show _ = _; omega
                have hAE : A < j := by omega
                have hEc : j ≤ cap := by omega
                have hAE2 : A ≤ j := by omega
                have hcA : ¬ cap = A := by omega
                clear hjn
                go_wp2
                go_region_law (refine step_append_own_at rfl (.tmp 61) (.tmp 76) 81 rfl (w.heap.size + 1) 25 i1 (.agg #[.slice none 0 0]) 1 24 Tryd.underlying81 HHV.out.1 HHV.out.2.1 HHV.out.2.2.1 HHV.out.2.2.2 rfl (by decide) (.slice (some ⟨go, 0, none⟩) q co) q (kidRow b o cap P (sk.take q)) (by simp [Act.eval]) (by exact (HRO.out.alloc _).own hgo) ⟨wr.heap.size, 0, none⟩ 1 1 [.slice (some ⟨b, o + A * 4, none⟩) (j - A) (cap - A)] (by simp [Act.eval]) rfl (by exact cell_one_new wr _ _) (by simp [Value.oneCell']) (by unfold maxLen; omega) (by omega) (by simp; omega) ?_; intro v5 w5 o5 g5 nn5 b5; have G5 : Hid ((wr.alloc (.cells #[.slice (some ⟨b, o + A * 4, none⟩) (j - A) (cap - A)] 25)).grownBy w5 (some go)) := ⟨g5.os, g5.tape, g5.output, g5.size, g5.block⟩; have ST := hid (KSTEP.out j HEN.out w5 v5 o5 G5.out (some_not_nil nn5) b5); clear o5 g5 nn5 b5 G5)
                all_goals
                  go_wp2
                  go_roundw
                  case rel =>
                    obtain ⟨go', co', e1, r1, r2, r3, r4, r5⟩ := ST.out
                    exact ⟨q + 1, go', co', by omega, by go_num, e1, r1, r2, r3, r4, r5⟩
                  case measure => simp [intOf]; omega
            · obtain rfl : q = k := by omega
              have HTK : Hid (sk.take q = sk) := List.take_of_length_le (by rw [HSK.out]; exact Nat.le_refl _)
              have HST : Hid (stk [] l = some (sp ++ [.node x.kind x.n x.text sk])) := by
                have h1 : l = l.take j ++ [x] := by
                  rw [← (List.getElem?_eq_some_iff.1 HX.out).2, ← List.take_succ_eq_append_getElem hjl, List.take_of_length_le (by rw [HL.out]; omega)]
                show stk [] l = _
                rw [h1, stk_snoc _ _ _ _ HI.out.st]
                exact push_good sp sk x (by rw [HK.out, HSK.out])
              by_cases hp0 : p = 0
              · have hsp : sp = [] := List.length_eq_zero_iff.1 (by rw [HPP.out]; exact hp0)
                have hP0 : P = 0 := by rw [← HP.out, hsp]; rfl
                subst hp0
                simp only [Nat.zero_add] at *
                go_wp2
                refine bodyPost_ret (v := .tuple #[.slice (some ⟨go, 0, none⟩) q co, .bool true]) (by simp [results, Tryd.results39, go_sem]) rfl ⟨btree HBL.out, .inr ⟨x.kind, x.n, x.text, sk, go, co, ?_, ?_, by omega, ?_⟩⟩
                · rw [HSK.out]
                · have h1 := HST.out
                  rw [hsp, List.nil_append] at h1
                  exact stk_one.1 h1
                · have h1 := HRO.out
                  rw [HTK.out, hP0] at h1
                  rw [HSK.out]
                  exact h1
              · have hne2 : ((q : Int) == (p : Int) + (q : Int)) = false := by simp; omega
                go_wp2
                refine bodyPost_ret (v := .tuple #[.slice (some ⟨go, 0, none⟩) q co, .bool false]) (by simp [results, Tryd.results39, go_sem]) rfl ⟨btree HBL.out, .inl ⟨_, rfl, not_flat HST.out (by rw [List.length_append, HPP.out]; simp; omega)⟩⟩
        · have HST : Hid (∀ w3 v3, w3.ownsRow (w.heap.size + 1) 3 1 v3 (p + 1) (intRow (begs 0 sp) ++ [.int .i64 P]) → (wr.alloc (.cells #[.int .i64 P] 3)).grownBy w3 (some gs) → ¬ v3 = .slice none 0 0 → ∃ s' gs' cs', v3 = .slice (some ⟨gs', 0, none⟩) s'.length cs' ∧ SInv l (w.heap.size + 1) (w.alloc (.cells #[.slice (some ⟨b, o, none⟩) N cap] 25)) w3 (j + 1) s' gs' cs') := fun w3 v3 o3 g3 n3 =>
            SInv_step HI.out HX.out (by rw [HK.out, HSK.out]) HP.out hBz (by rw [HPP.out]; exact o3) g3 n3
          by_cases hk0 : k = 0
          · subst hk0
            have hPj : j = P := by
              have h1 := HFL.out
              have : sk = [] := List.length_eq_zero_iff.1 HSK.out
              rw [this, List.append_nil, HP.out] at h1
              exact h1.symm
            subst hPj
            simp only [Nat.add_zero] at *
            go_wp2_with (at_builtin; refine wpList_append_own_at _ rfl (.tmp 98) (.tmp 100) 112 rfl (w.heap.size + 1) 3 i0 (.int .i64 0) 1 8 Tryd.underlying112 HHI.out.1 HHI.out.2.1 HHI.out.2.2.1 HHI.out.2.2.2 rfl (by decide) (.slice (some ⟨gs, 0, none⟩) p cs) p (intRow (begs 0 sp)) rfl ((R3.out.alloc _).own HI.out.base) ⟨wr.heap.size, 0, none⟩ 1 1 [.int .i64 j] rfl rfl (cell_one_new _ _ _) (by simp [Value.oneCell']) (by unfold maxLen; omega) (by omega) (by simp; omega) ?_; intro v3 w3 o3 g3 nn3 b3; have ST := hid (HST.out w3 v3 o3 g3 (some_not_nil nn3)); clear o3 g3 nn3 b3)
            go_roundw
            case rel =>
              obtain ⟨s', gs', cs', e1, hnew⟩ := ST.out
              exact ⟨j + 1, s', gs', cs', by omega, by go_num, e1, hnew⟩
            case measure => simp [intOf]; omega
          · have hkp : 0 < k := by omega
            have s0 : wr.cell? ⟨gs, p, none⟩ = some (.int .i64 P) := by
              have := SInv_cell HI.out.row 0 (by rw [HSK.out]; exact hkp)
              rw [HPP.out, HP.out] at this
              simpa [flats] using this
            go_wp2_with (at_builtin; refine wpList_append_own_at _ rfl (.tmp 98) (.tmp 100) 112 rfl (w.heap.size + 1) 3 i0 (.int .i64 0) 1 8 Tryd.underlying112 HHI.out.1 HHI.out.2.1 HHI.out.2.2.1 HHI.out.2.2.2 rfl (by decide) (.slice (some ⟨gs, 0, none⟩) p cs) p (intRow (begs 0 sp)) rfl ((R3.out.alloc _).own HI.out.base) ⟨wr.heap.size, 0, none⟩ 1 1 [.int .i64 P] rfl rfl (cell_one_new _ _ _) (by simp [Value.oneCell']) (by unfold maxLen; omega) (by omega) (by simp; omega) ?_; intro v3 w3 o3 g3 nn3 b3; have ST := hid (HST.out w3 v3 o3 g3 (some_not_nil nn3)); clear o3 g3 nn3 b3)
            go_roundw
            case rel =>
              obtain ⟨s', gs', cs', e1, hnew⟩ := ST.out
              exact ⟨j + 1, s', gs', cs', by omega, by go_num, e1, hnew⟩
            case measure => simp [intOf]; omega
      · have HBAD := hid (no_flat HI.out.st HX.out (push_bad s x (by omega)))
        by_cases hneg : x.kids < 0
        · go_wp2
          refine bodyPost_ret (v := .tuple #[.slice (some ⟨wr.heap.size, 0, none⟩) 0 0, .bool false]) (by simp [results, Tryd.results39, go_sem]) rfl ⟨(btree HI.out.below).alloc (btree HI.out.below).size _, .inl ⟨_, rfl, HBAD.out⟩⟩
        · have hge : 0 ≤ x.kids := by omega
          have hgt : (s.length : Int) < x.kids := by omega
          go_wp2
          refine bodyPost_ret (v := .tuple #[.slice (some ⟨wr.heap.size, 0, none⟩) 0 0, .bool false]) (by simp [results, Tryd.results39, go_sem]) rfl ⟨(btree HI.out.below).alloc (btree HI.out.below).size _, .inl ⟨_, rfl, HBAD.out⟩⟩
    · obtain ⟨rfl, rfl⟩ : j = 0 ∧ N = 0 := by omega
      have HE : Hid (∀ t, ¬ l = flat t) := fun t h => by
        have h1 := flat_pos t
        rw [← h, HL.out] at h1; omega
      go_wp2
      refine bodyPost_ret (v := .tuple #[.slice (some ⟨wr.heap.size, 0, none⟩) 0 0, .bool false]) (by simp [results, Tryd.results39, go_sem]) rfl ⟨(btree HI.out.below).alloc (btree HI.out.below).size _, .inl ⟨_, rfl, HE.out⟩⟩
end Go.Proofs.YtfookokepnnmoaaDoor
namespace Go.Proofs.YtfookokepnnmoaaDoor
open Go.RowKit
set_option maxRecDepth 20000
/-- Valid with so many atoms above it. -/
def OkV (l : List At) (above : Nat) : Prop := ∃ t, l = flat t ∧ OkT t ∧ above + high t ≤ 12
theorem okV_flat {t : Tr} {a : Nat} : OkV (flat t) a ↔ OkT t ∧ a + high t ≤ 12 := by
  constructor
  · rintro ⟨t', h, h1⟩
    rw [flat_inj h]; exact h1
  · intro h; exact ⟨t, rfl, h⟩
theorem okV_node {k n : Int} {t : ByteArray} {ks : List Tr} {a : Nat} : OkV (flat (.node k n t ks)) a ↔ LocOk k n t ks ∧ (∀ x ∈ ks, OkV (flat x) (a + 1)) ∧ a ≤ 12 := by
  rw [okV_flat]
  simp only [OkT, okTs_iff, high, okV_flat]
  constructor
  · rintro ⟨⟨h1, h2⟩, h3⟩
    exact ⟨h1, fun x hx => ⟨h2 x hx, by have := highs_mem hx; omega⟩, by omega⟩
  · rintro ⟨h1, h2, h3⟩
    refine ⟨⟨h1, fun x hx => (h2 x hx).1⟩, ?_⟩
    have := highs_le (l := ks) (b := 12 - a) (fun x hx => by have := (h2 x hx).2; omega)
    omega
theorem flat_last {l : List At} {k n : Int} {t : ByteArray} {ks : List Tr} {N : Nat} (h : l = flat (.node k n t ks)) (hN : l.length = N) : 1 ≤ N ∧ (flats ks).length = N - 1 ∧ l[N - 1]? = some ⟨k, n, t, ks.length⟩ := by
  subst h
  simp only [flat, List.length_append, List.length_singleton] at hN
  refine ⟨by omega, by omega, ?_⟩
  simp only [flat]
  rw [List.getElem?_append_right (by omega), show N - 1 - (flats ks).length = 0 by omega]
  rfl
theorem empty_iff (t : ByteArray) : (t.toList != (⟨#[]⟩ : ByteArray).toList) = true ↔ ¬ t.toList = [] := by
  rw [bne_iff_ne, Lib.toList_data]
  simp
/-- What a kid is, in a world that lies behind. -/
theorem kid_at {W : World} {b o : Nat} {l : List At} {k n : Int} {t : ByteArray} {ks : List Tr} (h : l = flat (.node k n t ks)) (ha : AtomsAt W b o l) (q : Nat) (hq : q < ks.length) : AtomsAt W b (o + (0 + (flats (ks.take q)).length) * 4) (flat ks[q]) := by
  subst h
  simp only [flat] at ha
  rw [flats_seg ks q hq, List.append_assoc, List.append_assoc] at ha
  rw [Nat.zero_add]
  exact ha.mid
theorem l5Ok_zero (b o cap : Nat) (l : List At) (above : Nat) (w : World) (hl : l.length = 0) :
    Calls Tryd.prog 22 #[.agg #[.slice (some ⟨b, o, none⟩) 0 cap], .int .i64 above] w fun e w' => Says e (OkV l above) ∧ Below w.heap.size w w' := by
  have HE : Hid (¬ OkV l above) := fun ⟨t, h, _⟩ => by have h1 := flat_pos t; rw [← h, hl] at h1; omega
  clear hl
  go_enter Tryd.func22, Tryd.ntmps22
  go_wp2
  go_ret
  exact ⟨says_f HE.out, (Below.refl _ _).alloc (Nat.le_refl _) _⟩
/-- The contract of l5Ok up to m atoms. -/
def OkIH (m : Nat) : Prop := ∀ (b o N cap : Nat) (l : List At) (above : Nat) (w : World), N ≤ m → l.length = N → N ≤ cap → N ≤ 1048576 ∧ cap ≤ 9223372036854775807 → above ≤ 13 → b < w.heap.size → AtomsAt w b o l → (∀ x ∈ l, x.text.size ≤ maxLen) →
    Calls Tryd.prog 22 #[.agg #[.slice (some ⟨b, o, none⟩) N cap], .int .i64 above] w fun e w' => Says e (OkV l above) ∧ Below w.heap.size w w'
set_option maxHeartbeats 1000000 in
theorem l5Ok_deep (b o N cap : Nat) (l : List At) (above : Nat) (w : World) (_hcap : N ≤ cap) (_hcm : N ≤ 1048576 ∧ cap ≤ 9223372036854775807) (hN1 : 1 ≤ N) (ha : above ≤ 13) (ha12 : 12 < above) : Calls Tryd.prog 22 #[.agg #[.slice (some ⟨b, o, none⟩) N cap], .int .i64 above] w fun e w' => Says e (OkV l above) ∧ Below w.heap.size w w' := by
  have HE : Hid (¬ OkV l above) := fun ⟨t, h, _, h2⟩ => by omega
  have hNz : ((N : Int) == 0) = false := by simp; omega
  have ha2 : (12 : Int) < (above : Int) := by omega
  go_enter Tryd.func22, Tryd.ntmps22
  go_wp2
  go_ret
  exact ⟨says_f HE.out, (Below.refl _ _).alloc (Nat.le_refl _) _⟩
set_option maxHeartbeats 1000000 in
theorem l5Ok_noflat (b o N cap : Nat) (l : List At) (above : Nat) (w : World) (hl : l.length = N) (hcap : N ≤ cap) (hcm : N ≤ 1048576 ∧ cap ≤ 9223372036854775807) (hN1 : 1 ≤ N) (ha12 : above ≤ 12) (hb : b < w.heap.size) (hn : AtomsAt w b o l) (hx : ∀ x ∈ l, x.text.size ≤ maxLen) (hno : ∀ t, ¬ l = flat t) : Calls Tryd.prog 22 #[.agg #[.slice (some ⟨b, o, none⟩) N cap], .int .i64 above] w fun e w' => Says e (OkV l above) ∧ Below w.heap.size w w' := by
  have HNO := hid hno
  clear hno
  have HN := hid hn
  have HX := hid hx
  have HL := hid hl
  have hNz : ((N : Int) == 0) = false := by simp; omega
  have ha2 : (above : Int) ≤ 12 := by omega
  clear hl hn hx
  have HB0 := hid (Below.refl (w.heap.size + 1) (w.alloc (.cells #[.slice (some ⟨b, o, none⟩) N cap] 25)))
  go_enter Tryd.func22, Tryd.ntmps22
  go_wp2_with fail
  refine (l5Kids_any b o N cap l _ HL.out hcap hcm (by simp; omega) (HN.out.below (btree HB0.out) hb)).mono ?_
  rintro e w1 ⟨hb1, h1⟩
  have HB1 := hid (HB0.out.trans (hb1.mono (by simp)))
  clear hb1
  have t1 := tree_cell HB1.out
  have hz1 := HB1.out.size
  have HNI : Hid (N - 1 < l.length) := by show _ < _; rw [HL.out]; omega
  obtain ⟨x, hx⟩ : ∃ x, l[N - 1]? = some x := ⟨_, List.getElem?_eq_getElem HNI.out⟩
  have HXX := hid hx
  clear hx
  have HL5 : Hid (∀ W, Below (w.heap.size + 1) (w.alloc (.cells #[.slice (some ⟨b, o, none⟩) N cap] 25)) W → Calls Tryd.prog 29 #[.agg #[.slice (some ⟨b, o, none⟩) N cap]] W fun e w' => e = .returned (atV x) ∧ Below W.heap.size W w') := fun W hW =>
    l5Last_any b o N cap x W hN1 (by omega) (by have := (btree hW).size; omega) ((HN.out.below (btree hW) hb) _ x HXX.out)
  rcases h1 with ⟨v, rfl, hno⟩ | ⟨k, n, t, ks, go, co, rfl, hfl, hgo, hrow⟩
  · have HE : Hid (¬ OkV l above) := fun ⟨t, h, _⟩ => hno t h
    clear hno HNO
    go_wp2_with (go_at_call 29; refine (HL5.out _ HB1.out).mono ?_; rintro e w2 ⟨rfl, hb2⟩; simp only [atV]; have HB2 := hid (HB1.out.trans (hb2.mono (by simpa using hz1))); clear hb2)
    go_ret
    exact ⟨says_f HE.out, (btree HB2.out).alloc (btree HB2.out).size _⟩
  · exact absurd hfl (HNO.out _)
end Go.Proofs.YtfookokepnnmoaaDoor
