import Derived.Test.YtpobfklbbkdglaaDoorJSUse
import Derived.Test.YtpobfklbbkdglaaDoorJNKids
import Derived.Test.YtpobfklbbkdglaaDoorJNWalk
namespace Go.Proofs.YtpobfklbbkdglaaDoor
open Go.RowKit
set_option maxRecDepth 20000
def knRow (L : List (ByteArray × Nat)) : List Value := L.flatMap fun p => [.string p.1, .int .i64 p.2]
theorem knRow_length (L : List (ByteArray × Nat)) : (knRow L).length = L.length * 2 := by
  induction L with
  | nil => rfl
  | cons p L ih =>
    unfold knRow at ih ⊢
    rw [List.flatMap_cons, List.length_append, ih, List.length_cons]
    simp; omega
theorem knRow_append (L M : List (ByteArray × Nat)) : knRow (L ++ M) = knRow L ++ knRow M := by simp [knRow]
theorem knRow_at (L : List (ByteArray × Nat)) : ∀ i p, L[i]? = some p → (knRow L)[i * 2]? = some (.string p.1) ∧ (knRow L)[i * 2 + 1]? = some (.int .i64 p.2) := by
  induction L with
  | nil => intro i p h; simp at h
  | cons q L ih =>
    intro i p h
    have e : knRow (q :: L) = .string q.1 :: .int .i64 q.2 :: knRow L := rfl
    rw [e]
    cases i with
    | zero => simp at h; subst h; simp
    | succ i =>
      simp only [List.getElem?_cons_succ] at h
      have := ih i p h
      rw [show (i + 1) * 2 = i * 2 + 1 + 1 by omega]
      simpa using this
theorem knRow_one (L : List (ByteArray × Nat)) : ∀ u ∈ knRow L, u.oneCell' = true := by
  intro u hu
  obtain ⟨p, _, hp⟩ := List.mem_flatMap.1 hu
  simp at hp
  rcases hp with rfl | rfl <;> rfl
/-- A list of known names, in a row of its own. -/
def KnR (W : World) (g c : Nat) (L : List (ByteArray × Nat)) : Prop := L.length ≤ c ∧ c ≤ maxLen ∧ ∃ cur, W.heap[g]? = some (.cells cur 78 (0, 0)) ∧ cur.size = c * 2 ∧ cur.toList.take (L.length * 2) = knRow L
theorem KnR.lt {W : World} {g c : Nat} {L : List (ByteArray × Nat)} (h : KnR W g c L) : g < W.heap.size := by
  obtain ⟨_, _, cur, h1, _⟩ := h
  exact (Array.getElem?_eq_some_iff.1 h1).1
theorem KnR.keep {W W' : World} {g c : Nat} {L : List (ByteArray × Nat)} (h : KnR W g c L) (hk : W'.heap[g]? = W.heap[g]?) : KnR W' g c L := by
  obtain ⟨h1, h2, cur, h3, h4⟩ := h
  exact ⟨h1, h2, cur, hk.trans h3, h4⟩
theorem KnR.cells {W : World} {g c : Nat} {L : List (ByteArray × Nat)} (h : KnR W g c L) : ∀ j u, (knRow L)[j]? = some u → W.cell? ((⟨g, 0, none⟩ : Addr).add j) = some u := by
  obtain ⟨_, _, cur, h3, h4, h5⟩ := h
  intro j u hj
  have hl := (List.getElem?_eq_some_iff.1 hj).1
  rw [knRow_length] at hl
  have e1 : ((⟨g, 0, none⟩ : Addr).add j) = ⟨g, j, none⟩ := by unfold Addr.add; simp; intro h; exact h.symm
  rw [e1]
  unfold World.cell?
  rw [h3]
  show cur[j]? = some u
  rw [← Array.getElem?_toList, ← hj, ← h5, List.getElem?_take_of_lt hl]
theorem KnR.at {W : World} {g c : Nat} {L : List (ByteArray × Nat)} (h : KnR W g c L) : KnAt W g c L := by
  refine ⟨h.1, h.2.1, h.lt, fun i p hp => ?_⟩
  obtain ⟨a, b⟩ := knRow_at L i p hp
  have e1 : ∀ j, ((⟨g, 0, none⟩ : Addr).add j) = ⟨g, j, none⟩ := fun j => by unfold Addr.add; simp; intro h; exact h.symm
  have ca := h.cells _ _ a
  have cb := h.cells _ _ b
  rw [e1] at ca cb
  exact ⟨ca, cb⟩
theorem KnR.of_own {W : World} {B n : Nat} {v : Value} {L : List (ByteArray × Nat)} (h : W.ownsRow B 78 2 v n (knRow L)) (hn : L.length = n) (hv : ¬ v = .slice none 0 0) : ∃ g c, v = .slice (some ⟨g, 0, none⟩) n c ∧ B ≤ g ∧ KnR W g c L := by
  obtain ⟨h1, ⟨h2, _⟩ | ⟨g, cap, cur, h2, h3, h4, h5, h6, h7, h8⟩⟩ := h
  · exact absurd h2 hv
  · exact ⟨g, cap, h2, h3, by omega, h6, cur, h4, h7, by rw [hn]; exact h8⟩
theorem KnR.own {W : World} {B g c : Nat} {L : List (ByteArray × Nat)} (h : KnR W g c L) (hB : B ≤ g) : W.ownsRow B 78 2 (.slice (some ⟨g, 0, none⟩) L.length c) L.length (knRow L) := by
  obtain ⟨h1, h2, cur, h3, h4, h5⟩ := h
  exact ⟨knRow_length L, .inr ⟨g, c, cur, rfl, hB, h3, h1, h2, h4, h5⟩⟩
theorem info_kn : (Tryd.prog.info? 78).map (fun i => (i.zero, i.size, i.bytes)) = some (some (.agg #[.string ⟨#[]⟩, .int .i64 0]), 2, 24) := by kernel_rfl
theorem Mx.kids {x : Mx} (hx : x.Ok) {w : World} (ht : Stb x.S w x.Tree) (k : Nat) (hk : k < x.N) : ∃ ad c, (x.o.getD k []).length ≤ c ∧ c ≤ maxLen ∧ (x.o.getD k [] = [] ∨ ∃ g, ad = some ⟨g, 0, none⟩) ∧
    Stb x.S w fun W => W.cell? ⟨x.gk, k, none⟩ = some (.slice ad (x.o.getD k []).length c) ∧ PlA W ad (x.o.getD k []) := by
  obtain ⟨ad, c, h1, h2, h3, h4⟩ := ht.now.2.2 k hk
  refine ⟨ad, c, h2, h3, h4.imp_right fun ⟨g, h, _⟩ => ⟨g, h⟩, fun W hW => ?_⟩
  have e := (hW.cell (p := ⟨x.gk, k, none⟩) (World.block_lt_of_cell? w _ h1) hx.gk).trans h1
  obtain ⟨ad', c', h5, _, _, h6⟩ := (ht W hW).2.2 k hk
  rw [e] at h5
  cases h5
  refine ⟨e, h6.imp_right ?_⟩
  rintro ⟨g, rfl, h7⟩
  exact ⟨g, 0, rfl, fun i hi => by rw [Nat.zero_add]; exact h7 i hi⟩
/-- What the model's walk of a node owes. -/
def GoOk (x : Mx) (k : Nat) : Prop := ∀ (L : List (ByteArray × Nat)) (g c : Nat) (F : Nat × Nat → Prop) (cf : Nat → Nat) (bn : Nat → Int) (w : World), L.length + 10 * k ≤ 2000000 → x.At w cf bn → Stb x.S w x.Tree → CodesOk cf F → KnR w g c L → ¬ x.S g →
  Calls Tryd.prog 47 #[.pointer (some ⟨x.wb, 0, none⟩), .int .i64 k, .slice (some ⟨g, 0, none⟩) L.length c] w fun e w' => e = .returned (.tuple #[]) ∧ x.Ends w w' F bn (wk x.nd x.o k (envL L))
end Go.Proofs.YtpobfklbbkdglaaDoor
namespace Go.Proofs.YtpobfklbbkdglaaDoor
open Go.RowKit
set_option maxRecDepth 20000
theorem Mx.Ends.congr {x : Mx} {w w' : World} {F : Nat × Nat → Prop} {bn : Nat → Int} {e e' : List Ev} (h : x.Ends w w' F bn e) (h1 : ∀ y, y ∈ fls e ↔ y ∈ fls e') (h2 : fls e' = [] → apB bn e = apB bn e') : x.Ends w w' F bn e' := by
  obtain ⟨s, cf, b, a, k, n⟩ := h
  refine ⟨s, cf, b, a, k.congr fun y => by rw [h1], fun hq => ?_⟩
  have : fls e = [] := List.eq_nil_iff_forall_not_mem.2 fun y hy => by rw [h1, hq] at hy; cases hy
  rw [n this, h2 hq]
def dupB (nd : Nat → Nd) (l : List Nat) (t : ByteArray) : Bool := l.any fun q => decide ((nd q).text = t)
theorem dupB_snoc (nd : Nat → Nd) (l : List Nat) (q : Nat) (t : ByteArray) : dupB nd (l ++ [q]) t = (dupB nd l t || decide ((nd q).text = t)) := by simp [dupB]
theorem inL_names (nd : Nat → Nd) (l : List Nat) (t : ByteArray) : inL t (l.map fun q => (nd q).text).reverse = dupB nd l t := by
  simp [inL, dupB, List.any_map, Function.comp_def]
def flt8 (b : Bool) (y c : Nat) : List Ev := if b = true then [.flt y c] else []
theorem Mx.Ends.twice {x : Mx} {w w' : World} {F : Nat × Nat → Prop} {bn : Nat → Int} {es : List Ev} {b : Bool} {y c : Nat} (h : x.Ends w w' F bn ((es ++ flt8 b y c) ++ [.flt y c])) : x.Ends w w' F bn (es ++ flt8 true y c) := by
  refine h.congr (fun z => ?_) (fun hq => ?_)
  · cases b <;> simp [flt8, fls_append, fls]
  · simp [flt8, fls_append, fls] at hq
theorem Mx.Ends.turn {x : Mx} {w w' : World} {F : Nat × Nat → Prop} {bn : Nat → Int} {es kw : List Ev} {b b' : Bool} {y : Nat} (h : x.Ends w w' F bn (((es ++ flt8 b y 8) ++ flt8 b' y 10) ++ kw)) : x.Ends w w' F bn (es ++ (kw ++ (flt8 b y 8 ++ flt8 b' y 10))) := by
  refine h.congr (fun z => ?_) (fun hq => ?_)
  · simp only [fls_append, List.mem_append]
    constructor
    · rintro (((h | h) | h) | h)
      · exact .inl h
      · exact .inr (.inr (.inl h))
      · exact .inr (.inr (.inr h))
      · exact .inr (.inl h)
    · rintro (h | h | h | h)
      · exact .inl (.inl (.inl h))
      · exact .inr h
      · exact .inl (.inl (.inr h))
      · exact .inl (.inr h)
  · cases b <;> cases b' <;> simp [flt8, fls_append, fls] at hq ⊢
theorem fault_more {x : Mx} (hx : x.Ok) (k : Nat) (code : Int) (hc : 0 < code) {w wr : World} {F : Nat × Nat → Prop} {cf : Nat → Nat} {bn bn1 : Nat → Int} {es : List Ev} (hkN : k < x.N) (hs : Sv x.S w wr) (ha : x.At wr cf bn1) (ht : x.Tree wr) (hok : CodesOk cf (fun y => F y ∨ y ∈ fls es)) (hn : fls es = [] → bn1 = apB bn es) :
    Calls Tryd.prog 46 #[.pointer (some ⟨x.wb, 0, none⟩), .int .i64 k, .int .i64 code] wr fun e w' => e = .returned (.tuple #[]) ∧ x.Ends w w' F bn (es ++ [.flt k code.toNat]) ∧ Sv x.S wr w' := by
  obtain ⟨c, rfl⟩ := Int.eq_ofNat_of_zero_le (Int.le_of_lt hc)
  refine (fault_any x hx k c (by omega) _ cf bn1 wr hkN ha ht hok).mono ?_
  rintro e w' ⟨rfl, h⟩
  exact ⟨rfl, mends_join hs hn h, h.1⟩
theorem Mx.Ends.grown {x : Mx} {w W W' : World} {F : Nat × Nat → Prop} {bn : Nat → Int} {e : List Ev} {gi : Nat} {o : Obj} (h : x.Ends w W F bn e) (hg : (W.alloc o).grownBy W' (some gi)) (hgi : w.heap.size ≤ gi) (hS : ¬ x.S gi) : x.Ends w W' F bn e := by
  obtain ⟨s, cf, b, a, k, n⟩ := h
  refine ⟨(s.alloc o).grown hg (fun q e => by injection e with e; subst e; exact .inr hgi), cf, b, ?_, k, n⟩
  have a1 := a.go ((Below.refl _ _).alloc (Nat.le_refl _) o)
  have hl := a1.lt
  obtain ⟨⟨c1, h1, h3⟩, c2, h2, h4⟩ := a1
  exact ⟨⟨c1, (hg.block _ (hl _ (.inl rfl)) (fun e => hS (by injection e with e; exact .inl e.symm))).trans h1, h3⟩, c2, (hg.block _ (hl _ (.inr rfl)) (fun e => hS (by injection e with e; exact .inr e.symm))).trans h2, h4⟩
theorem prm_round {nd : Nat → Nd} {o : List (List Nat)} {W : Env → Nat → List Ev} {ps : List Nat} {q y : Nat} {es T : List Ev} {kn : Env} {ns : List ByteArray} {d : Bool} (h : es ++ (prm nd o W (ps.drop q) kn ns d).1 = T) (hy : ps[q]? = some y) :
    (es ++ ((o.getD y []).flatMap (W kn) ++ (flt8 (inL (nd y).text ns) y 8 ++ flt8 (d && (o.getD y []).isEmpty) y 10))) ++ (prm nd o W (ps.drop (q + 1)) (kn.ext (nd y).text y) ((nd y).text :: ns) (d || !(o.getD y []).isEmpty)).1 = T := by
  rw [prm_drop _ _ _ hy] at h
  rw [← h]
  have e : (if d = true ∧ o.getD y [] = [] then [Ev.flt y 10] else []) = flt8 (d && (o.getD y []).isEmpty) y 10 := by
    unfold flt8
    cases d <;> simp
  rw [e]
  simp only [List.append_assoc]
  rfl
theorem cell_two_new (w : World) (a b : Value) (t : TypeId) : ∀ j u, [a, b][j]? = some u → (w.alloc (.cells #[a, b] t)).cell? ((⟨w.heap.size, 0, none⟩ : Addr).add j) = some u := by
  intro j u hj
  have e1 : ((⟨w.heap.size, 0, none⟩ : Addr).add j) = ⟨w.heap.size, j, none⟩ := by unfold Addr.add; simp; intro h; exact h.symm
  rw [e1, cell_new_row, ← hj]; simp
set_option maxHeartbeats 4000000 in
theorem function_m (x : Mx) (hx : x.Ok) (k : Nat) (ps : List Nat) (l : Nat) (L : List (ByteArray × Nat)) (hw : ∀ q ∈ ps, ∀ j ∈ x.o.getD q [], j < k ∧ GoOk x j) (hlk : l < k) (hlast : GoOk x l) (hpN : ∀ q ∈ ps, q < x.N) (h8 : ps.length ≤ 8) (hone : ∀ q ∈ ps, (x.o.getD q []).length ≤ 1)
    (g' cp g c : Nat) (F : Nat × Nat → Prop) (cf : Nat → Nat) (bn : Nat → Int) (w : World) (hcp : ps.length + 1 ≤ cp) (hb : L.length + 10 * k ≤ 2000000) (hp : Stb x.S w fun W => ∀ i, i < ps.length + 1 → W.cell? ⟨g', i, none⟩ = some (.int .i64 ((ps ++ [l]).getD i 0 : Nat))) (h : x.At w cf bn) (ht : Stb x.S w x.Tree) (hok : CodesOk cf F) (hk : KnR w g c L) (hSg : ¬ x.S g) :
    Calls Tryd.prog 68 #[.pointer (some ⟨x.wb, 0, none⟩), .slice (some ⟨g', 0, none⟩) (ps.length + 1) cp, .slice (some ⟨g, 0, none⟩) L.length c] w fun e w' => e = .returned (.tuple #[]) ∧
      x.Ends w w' F bn ((prm x.nd x.o (fun kn j => wk x.nd x.o j kn) ps (envL L) [] false).1 ++ wk x.nd x.o l (prm x.nd x.o (fun kn j => wk x.nd x.o j kn) ps (envL L) [] false).2) := by
  have HX := hid hx
  have HW := hid hw
  have HL := hid hlast
  have HPN := hid hpN
  have HONE := hid hone
  have HP := hid hp
  have H := hid h
  have HT := hid ht
  have HOK := hid hok
  have HK := hid hk
  have HSg := hid hSg
  clear hx hw hlast hpN hone hp h ht hok hk hSg
  obtain ⟨m, hm⟩ : ∃ m, ps.length = m := ⟨_, rfl⟩
  have HM := hid hm
  rw [hm] at h8 hcp HP ⊢
  obtain ⟨nL, hnL⟩ : ∃ nL, L.length = nL := ⟨_, rfl⟩
  have HNL := hid hnL
  rw [hnL] at hb ⊢
  clear hm hnL
  obtain ⟨i0, hi, hz0, hz1, hz2⟩ := info_parts info_kn
  have HHI := hid (And.intro hi (And.intro hz0 (And.intro hz1 hz2)))
  clear hi hz0 hz1 hz2
  have OWN1 := hid (World.ownsRow_made (base := w.heap.size) (e := 78) (size := 2) w #[] 0 (Nat.le_refl _) (by unfold maxLen; omega) rfl)
  have HC1 : Hid (∀ j u, (knRow L)[j]? = some u → (w.alloc (.cells #[] 78)).cell? ((⟨g, 0, none⟩ : Addr).add j) = some u) := (HK.out.keep (Below.heap_alloc w _ g HK.out.lt)).cells
  go_enter Tryd.func68, Tryd.ntmps68
  go_wp2_with (first
    | (at_builtin; refine wpList_append_own_at _ rfl _ _ 75 rfl w.heap.size 78 i0 (.agg #[.string ⟨#[]⟩, .int .i64 0]) 2 24 Tryd.underlying75 HHI.out.1 HHI.out.2.1 HHI.out.2.2.1 HHI.out.2.2.2 rfl (by decide) _ _ _ rfl OWN1.out ⟨g, 0, none⟩ nL c (knRow L) rfl (by rw [knRow_length, HNL.out]) HC1.out (knRow_one L) (by unfold maxLen; omega) (by omega) (by simp) ?_; intro v1 w1 o1 g1 nn1 b1; rw [Nat.zero_add, List.nil_append] at o1; have hnn1 := some_not_nil nn1; clear nn1; obtain ⟨g1', c1', rfl, hbg, hkr⟩ := KnR.of_own o1 HNL.out hnn1; have HKR := hid hkr; have HG1 := hid g1; clear o1 g1 hnn1 b1 hkr))
  have HSL := hid H.out.lt
  have HB1 : Hid (Below w.heap.size w w1) := ((Below.refl _ _).alloc (Nat.le_refl _) _).grown HG1.out (by simp) (fun q e => by cases e; exact Nat.le_refl _)
  clear HG1
  go_loopw [6, 7, 8] (fun vin dv i wr => ∃ (j : Nat) (d : Bool) (Lj : List (ByteArray × Nat)) (gi ci : Nat) (es : List Ev), j ≤ m ∧ i = .int .i64 j ∧ dv = .bool d ∧ vin = .slice (some ⟨gi, 0, none⟩) (nL + j) ci ∧ Lj.length = nL + j ∧ KnR wr gi ci Lj ∧ w.heap.size ≤ gi ∧ x.Ends w wr F bn es ∧
      es ++ (prm x.nd x.o (fun kn j => wk x.nd x.o j kn) (ps.drop j) (envL Lj) ((ps.take j).map fun q => (x.nd q).text).reverse d).1 = (prm x.nd x.o (fun kn j => wk x.nd x.o j kn) ps (envL L) [] false).1 ∧ (prm x.nd x.o (fun kn j => wk x.nd x.o j kn) (ps.drop j) (envL Lj) ((ps.take j).map fun q => (x.nd q).text).reverse d).2 = (prm x.nd x.o (fun kn j => wk x.nd x.o j kn) ps (envL L) [] false).2) (fun _ _ i _ => m - (intOf i).toNat)
  case atStart => exact ⟨0, false, L, g1', c1', [], Nat.zero_le _, rfl, rfl, rfl, HNL.out, HKR.out, hbg, ⟨Sv.of_below HB1.out, cf, bn, H.out.go HB1.out, HOK.out.congr (fun y => by simp [fls]), fun _ => rfl⟩, rfl, rfl⟩
  case round =>
    obtain ⟨j, d, Lj, gi, ci, es, hj, rfl, rfl, rfl, hlj, hkr, hgi, hen, hes, hkn⟩ := hrel
    clear HKR
    have HKR := hid hkr
    have HLJ := hid hlj
    have HES := hid hes
    have HKN := hid hkn
    obtain ⟨hsc, cfc, bnc, hac, hoc, hnc⟩ := hen
    have HSC := hid hsc
    have HAC := hid hac
    have HOC := hid hoc
    have HNC := hid hnc
    have HSgi : Hid (¬ x.S gi) := fun h => by have := HSL.out gi h; omega
    clear hkr hlj hes hkn hsc hac hoc hnc
    by_cases hlt : j < m
    · obtain ⟨y, hy⟩ : ∃ y, ps[j]? = some y := ⟨_, List.getElem?_eq_getElem (by have := HM.out; omega)⟩
      have HY := hid hy
      have HYM := hid (List.mem_of_getElem? hy)
      have hyN := HPN.out y HYM.out
      have hN5 := HX.out.N
      have c0 := HP.out _ HSC.out j (by omega)
      rw [List.getD_eq_getElem?_getD, List.getElem?_append_left (by have := HM.out; omega), hy] at c0
      simp only [Option.getD_some] at c0
      clear hy
      go_wp2
      clear c0
      obtain ⟨wo, hwo⟩ : ∃ wo, wo = wr := ⟨_, rfl⟩
      subst hwo
      go_loopw [10] (fun i wq => ∃ (q : Nat), q ≤ j ∧ i = .int .i64 q ∧ Sv x.S wo wq ∧ x.Ends w wq F bn (es ++ flt8 (dupB x.nd (ps.take q) (x.nd y).text) y 8)) (fun i _ => j - (intOf i).toNat)
      case atStart =>
        refine ⟨0, Nat.zero_le _, rfl, Sv.refl _ _, ?_⟩
        have : es ++ flt8 (dupB x.nd (ps.take 0) (x.nd y).text) y 8 = es := by simp [flt8, dupB]
        rw [this]
        exact ⟨HSC.out, cfc, bnc, HAC.out, HOC.out, HNC.out⟩
      case round =>
        obtain ⟨q, hq, rfl, hsr, hen⟩ := hrel
        have HSR := hid hsr
        clear HSC HAC HOC HNC hsr
        obtain ⟨hsc, cfc, bnc, hac, hoc, hnc⟩ := hen
        have HSC := hid hsc
        have HAC := hid hac
        have HOC := hid hoc
        have HNC := hid hnc
        clear hsc hac hoc hnc
        obtain ⟨f0, f1, f2, f3⟩ := (HT.out _ HSC.out).four
        by_cases hqj : q < j
        · obtain ⟨z, hz⟩ : ∃ z, ps[q]? = some z := ⟨_, List.getElem?_eq_getElem (by have := HM.out; omega)⟩
          have hzN := HPN.out z (List.mem_of_getElem? hz)
          have c0 := HP.out _ HSC.out q (by omega)
          rw [List.getD_eq_getElem?_getD, List.getElem?_append_left (by have := HM.out; omega), hz] at c0
          simp only [Option.getD_some] at c0
          have HTQ : Hid (ps.take (q + 1) = ps.take q ++ [z]) := by
            show _ = _
            rw [List.take_succ_eq_append_getElem (by have := HM.out; omega), (List.getElem?_eq_some_iff.1 hz).2]
          clear hz
          obtain ⟨_, _, _, z3, _⟩ := (HT.out _ HSC.out).2.1 z hzN
          obtain ⟨_, _, _, y3, _⟩ := (HT.out _ HSC.out).2.1 y hyN
          cases he : ((x.nd z).text.toList == (x.nd y).text.toList)
          · have HNE : Hid (¬ (x.nd z).text = (x.nd y).text) := fun h => by rw [h] at he; simp at he
            have HNX : Hid (x.Ends w wr.drew F bn (es ++ flt8 (dupB x.nd (ps.take (q + 1)) (x.nd y).text) y 8)) := by
              rw [HTQ.out, dupB_snoc]
              have e : decide ((x.nd z).text = (x.nd y).text) = false := by simp [HNE.out]
              rw [e, Bool.or_false]
              exact ⟨HSC.out.drew, cfc, bnc, HAC.out, HOC.out, HNC.out⟩
            have HSR2 := hid HSR.out.drew
            go_wp2
            go_region
            go_wp2
            go_roundw
            case rel => exact ⟨q + 1, by omega, by go_num, HSR2.out, HNX.out⟩
            case measure => simp [intOf]; omega
          · have HEQ : Hid ((x.nd z).text = (x.nd y).text) := bytes_eq he
            go_wp2
            go_region
            have HSC2 := hid HSC.out.drew
            have HSR2 := hid HSR.out.drew
            have HAC2 : Hid (x.At wr.drew cfc bnc) := HAC.out
            clear f0 f1 f2 f3 z3 y3 c0 HSC HSR HAC
            generalize wr.drew = w2 at *
            go_wp2_with (first
              | (go_at_call 46; refine (fault_more HX.out y _ (by decide) hyN HSC2.out HAC2.out (HT.out _ HSC2.out) HOC.out HNC.out).mono ?_; rintro e w4 ⟨rfl, hen, hsv⟩; have HEN := hid hen.twice; have HSR := hid (HSR2.out.trans hsv); clear hen hsv))
            have HNX : Hid (x.Ends w w4 F bn (es ++ flt8 (dupB x.nd (ps.take (q + 1)) (x.nd y).text) y 8)) := by
              rw [HTQ.out, dupB_snoc]
              have e : decide ((x.nd z).text = (x.nd y).text) = true := by simp [HEQ.out]
              rw [e, Bool.or_true]
              exact HEN.out
            go_roundw
            case rel => exact ⟨q + 1, by omega, by go_num, HSR.out, HNX.out⟩
            case measure => simp [intOf]; omega
        · obtain rfl : q = j := by omega
          obtain ⟨kl, hkl⟩ : ∃ kl, x.o.getD y [] = kl := ⟨_, rfl⟩
          have HKL := hid hkl
          obtain ⟨ad, c', hk1, hk2, hk3, hk4⟩ := Mx.kids HX.out HT.out y hyN
          rw [hkl] at hk4 hk1 hk3
          have HK4 := hid hk4
          have k0 := (hk4 _ HSC.out).1
          have hone := HONE.out y HYM.out
          rw [hkl] at hone
          obtain ⟨y0, y1, y2, y3, y4⟩ := (HT.out _ HSC.out).2.1 y hyN
          have HWY := hid (HW.out y HYM.out)
          rw [hkl] at HWY
          have HKO : Hid (∀ W, Sv x.S wo W → W.ownsRow w.heap.size 78 2 (.slice (some ⟨gi, 0, none⟩) (nL + q) ci) (nL + q) (knRow Lj)) := fun W hW => by
            have := (HKR.out.keep (hW.block gi HKR.out.lt HSgi.out)).own hgi
            rw [HLJ.out] at this
            exact this
          have HDUP : Hid (inL (x.nd y).text ((ps.take q).map fun q => (x.nd q).text).reverse = dupB x.nd (ps.take q) (x.nd y).text) := inL_names _ _ _
          have HTQ : Hid (((ps.take (q + 1)).map fun q => (x.nd q).text).reverse = (x.nd y).text :: ((ps.take q).map fun q => (x.nd q).text).reverse) := by
            show _ = _
            rw [List.take_succ_eq_append_getElem (by have := HM.out; omega), (List.getElem?_eq_some_iff.1 HY.out).2]
            simp
          clear hk4 hkl
          match kl, hone with
          | [], _ =>
            simp only [List.length_nil] at k0
            cases hdd : d
            · go_wp2_with (first
                | (at_builtin; refine wpList_append_own_at _ rfl (.tmp 91) (.tmp 103) 75 rfl w.heap.size 78 i0 (.agg #[.string ⟨#[]⟩, .int .i64 0]) 2 24 Tryd.underlying75 HHI.out.1 HHI.out.2.1 HHI.out.2.2.1 HHI.out.2.2.2 rfl (by decide) (.slice (some ⟨gi, 0, none⟩) (nL + q) ci) _ _ rfl (HKO.out _ (HSR.out.alloc _)) ⟨_, 0, none⟩ 1 1 [.string (x.nd y).text, .int .i64 y] rfl rfl (cell_two_new _ _ _ _) (by simp [Value.oneCell']) (by unfold maxLen; omega) (by omega) (by have := HSC.out.size; simp; omega) ?_; intro v5 w5 o5 g5 nn5 b5; have O5 := hid o5; have G5 := hid g5; have NN5 := hid nn5; clear o5 g5 nn5 b5))
              obtain ⟨g6, c6, rfl, hb6, hk6⟩ := KnR.of_own (L := Lj ++ [((x.nd y).text, y)]) (by rw [knRow_append]; exact O5.out) (by rw [List.length_append, HLJ.out]; rfl) (some_not_nil NN5.out)
              have HK6 := hid hk6
              have HEX : Hid (x.Ends w w5 F bn (es ++ ((x.o.getD y []).flatMap (fun j => wk x.nd x.o j (envL Lj)) ++ (flt8 (inL (x.nd y).text ((ps.take q).map fun q => (x.nd q).text).reverse) y 8 ++ flt8 (false && (x.o.getD y []).isEmpty) y 10)))) := by
                rw [HDUP.out, HKL.out]
                refine Mx.Ends.grown (gi := gi) (Mx.Ends.turn ?_) G5.out hgi HSgi.out
                rw [show flt8 (false && ([] : List Nat).isEmpty) y 10 = [] from rfl, List.append_nil, List.flatMap_nil, List.append_nil]
                exact ⟨HSC.out, cfc, bnc, HAC.out, HOC.out, HNC.out⟩
              have HE6 : Hid (envL (Lj ++ [((x.nd y).text, y)]) = (envL Lj).ext (x.nd y).text y) := envL_snoc _ _
              have HRD := hid (prm_round HES.out HY.out)
              have HRK := hid HKN.out
              rw [prm_drop _ _ _ HY.out] at HRK
              rw [hdd, HKL.out] at HRD HRK
              clear O5 G5 NN5 hk6 f0 f1 f2 f3 y0 y1 y2 y3 y4 HES HKN
              go_wp2
              go_roundw
              case rel =>
                refine ⟨q + 1, false, Lj ++ [((x.nd y).text, y)], g6, c6, _, by omega, by go_num, rfl, rfl, by rw [List.length_append, HLJ.out]; rfl, HK6.out, hb6, HEX.out, ?_, ?_⟩
                · rw [HE6.out, HTQ.out, HKL.out]
                  exact HRD.out
                · rw [HE6.out, HTQ.out]
                  exact HRK.out
              case measure => simp [intOf]; omega
            · go_wp2_with (first
                | (go_at_call 46; refine (fault_more HX.out y _ (by decide) hyN HSC.out HAC.out (HT.out _ HSC.out) HOC.out HNC.out).mono ?_; rintro e w4 ⟨rfl, hen, hsv⟩; have HEN := hid hen; have HSR := hid (HSR.out.trans hsv); clear hen hsv HSC HAC HNC HOC f0 f1 f2 f3 k0; obtain ⟨hsc, cfc, bnc, hac, hoc, hnc⟩ := HEN.out; have HSC := hid hsc; have HAC := hid hac; have HOC := hid hoc; have HNC := hid hnc; clear hsc hac hoc hnc HEN y0 y1 y2 y3 y4; obtain ⟨f0, f1, f2, f3⟩ := (HT.out _ HSC.out).four; have k0 := (HK4.out _ HSC.out).1; obtain ⟨y0, y1, y2, y3, y4⟩ := (HT.out _ HSC.out).2.1 y hyN)
                | (at_builtin; refine wpList_append_own_at _ rfl (.tmp 91) (.tmp 103) 75 rfl w.heap.size 78 i0 (.agg #[.string ⟨#[]⟩, .int .i64 0]) 2 24 Tryd.underlying75 HHI.out.1 HHI.out.2.1 HHI.out.2.2.1 HHI.out.2.2.2 rfl (by decide) (.slice (some ⟨gi, 0, none⟩) (nL + q) ci) _ _ rfl (HKO.out _ (HSR.out.alloc _)) ⟨_, 0, none⟩ 1 1 [.string (x.nd y).text, .int .i64 y] rfl rfl (cell_two_new _ _ _ _) (by simp [Value.oneCell']) (by unfold maxLen; omega) (by omega) (by have := HSC.out.size; simp; omega) ?_; intro v5 w5 o5 g5 nn5 b5; have O5 := hid o5; have G5 := hid g5; have NN5 := hid nn5; clear o5 g5 nn5 b5))
              obtain ⟨g6, c6, rfl, hb6, hk6⟩ := KnR.of_own (L := Lj ++ [((x.nd y).text, y)]) (by rw [knRow_append]; exact O5.out) (by rw [List.length_append, HLJ.out]; rfl) (some_not_nil NN5.out)
              have HK6 := hid hk6
              have HEX : Hid (x.Ends w w5 F bn (es ++ ((x.o.getD y []).flatMap (fun j => wk x.nd x.o j (envL Lj)) ++ (flt8 (inL (x.nd y).text ((ps.take q).map fun q => (x.nd q).text).reverse) y 8 ++ flt8 (true && (x.o.getD y []).isEmpty) y 10)))) := by
                rw [HDUP.out, HKL.out]
                refine Mx.Ends.grown (gi := gi) (Mx.Ends.turn ?_) G5.out hgi HSgi.out
                rw [show flt8 (true && ([] : List Nat).isEmpty) y 10 = [.flt y 10] from rfl, List.flatMap_nil, List.append_nil]
                exact ⟨HSC.out, cfc, bnc, HAC.out, HOC.out, HNC.out⟩
              have HE6 : Hid (envL (Lj ++ [((x.nd y).text, y)]) = (envL Lj).ext (x.nd y).text y) := envL_snoc _ _
              have HRD := hid (prm_round HES.out HY.out)
              have HRK := hid HKN.out
              rw [prm_drop _ _ _ HY.out] at HRK
              rw [hdd, HKL.out] at HRD HRK
              clear O5 G5 NN5 hk6 f0 f1 f2 f3 y0 y1 y2 y3 y4 HES HKN
              go_wp2
              go_roundw
              case rel =>
                refine ⟨q + 1, true, Lj ++ [((x.nd y).text, y)], g6, c6, _, by omega, by go_num, rfl, rfl, by rw [List.length_append, HLJ.out]; rfl, HK6.out, hb6, HEX.out, ?_, ?_⟩
                · rw [HE6.out, HTQ.out, HKL.out]
                  exact HRD.out
                · rw [HE6.out, HTQ.out]
                  exact HRK.out
              case measure => simp [intOf]; omega
          | [z], _ =>
            rcases hk3 with e | ⟨gg, rfl⟩
            · cases e
            have z0 : wr.cell? ⟨gg, 0, none⟩ = some (.int .i64 (z : Nat)) := by
              rcases (HK4.out _ HSC.out).2 with e | ⟨g'', q', e, hc⟩
              · cases e
              · cases e; exact hc 0 (by simp)
            have hzk := (HWY.out z (by simp)).1
            have HZ := hid (HWY.out z (by simp)).2
            have hbz : Lj.length + 10 * z ≤ 2000000 := by rw [HLJ.out]; omega
            have HZ2 : Hid (∀ (F : Nat × Nat → Prop) (cf : Nat → Nat) (bn : Nat → Int) (w : World), x.At w cf bn → Stb x.S w x.Tree → CodesOk cf F → KnR w gi ci Lj →
                Calls Tryd.prog 47 #[.pointer (some ⟨x.wb, 0, none⟩), .int .i64 z, .slice (some ⟨gi, 0, none⟩) (nL + q) ci] w fun e w' => e = .returned (.tuple #[]) ∧ x.Ends w w' F bn (wk x.nd x.o z (envL Lj))) := fun F cf bn w h1 h2 h3 h4 => by
              have := HZ.out Lj gi ci F cf bn w hbz h1 h2 h3 h4 HSgi.out
              rw [HLJ.out] at this
              exact this
            clear hbz HZ
            simp only [List.length_cons, List.length_nil] at k0 hk1
            cases hdd : d
            · go_wp2_with (first
                | (go_at_call 47; refine (HZ2.out _ cfc bnc _ HAC.out (HT.out.go HSC.out) HOC.out (HKR.out.keep (HSR.out.block gi HKR.out.lt HSgi.out))).mono ?_; rintro e w4 ⟨rfl, hen0⟩; have HEN := hid (mends_join HSC.out HNC.out hen0); have HSR := hid (HSR.out.trans hen0.1); clear hen0 HSC HAC HNC HOC f0 f1 f2 f3 k0 y0 y1 y2 y3 y4; obtain ⟨hsc, cfc, bnc, hac, hoc, hnc⟩ := HEN.out; have HSC := hid hsc; have HAC := hid hac; have HOC := hid hoc; have HNC := hid hnc; clear hsc hac hoc hnc HEN; obtain ⟨f0, f1, f2, f3⟩ := (HT.out _ HSC.out).four; obtain ⟨y0, y1, y2, y3, y4⟩ := (HT.out _ HSC.out).2.1 y hyN)
                | (at_builtin; refine wpList_append_own_at _ rfl (.tmp 91) (.tmp 103) 75 rfl w.heap.size 78 i0 (.agg #[.string ⟨#[]⟩, .int .i64 0]) 2 24 Tryd.underlying75 HHI.out.1 HHI.out.2.1 HHI.out.2.2.1 HHI.out.2.2.2 rfl (by decide) (.slice (some ⟨gi, 0, none⟩) (nL + q) ci) _ _ rfl (HKO.out _ (HSR.out.alloc _)) ⟨_, 0, none⟩ 1 1 [.string (x.nd y).text, .int .i64 y] rfl rfl (cell_two_new _ _ _ _) (by simp [Value.oneCell']) (by unfold maxLen; omega) (by omega) (by have := HSC.out.size; simp; omega) ?_; intro v5 w5 o5 g5 nn5 b5; have O5 := hid o5; have G5 := hid g5; have NN5 := hid nn5; clear o5 g5 nn5 b5))
              obtain ⟨g6, c6, rfl, hb6, hk6⟩ := KnR.of_own (L := Lj ++ [((x.nd y).text, y)]) (by rw [knRow_append]; exact O5.out) (by rw [List.length_append, HLJ.out]; rfl) (some_not_nil NN5.out)
              have HK6 := hid hk6
              have HEX : Hid (x.Ends w w5 F bn (es ++ ((x.o.getD y []).flatMap (fun j => wk x.nd x.o j (envL Lj)) ++ (flt8 (inL (x.nd y).text ((ps.take q).map fun q => (x.nd q).text).reverse) y 8 ++ flt8 (false && (x.o.getD y []).isEmpty) y 10)))) := by
                rw [HDUP.out, HKL.out]
                refine Mx.Ends.grown (gi := gi) (Mx.Ends.turn ?_) G5.out hgi HSgi.out
                rw [show flt8 (false && [z].isEmpty) y 10 = [] from rfl, List.append_nil, List.flatMap_cons, List.flatMap_nil, List.append_nil]
                exact ⟨HSC.out, cfc, bnc, HAC.out, HOC.out, HNC.out⟩
              have HE6 : Hid (envL (Lj ++ [((x.nd y).text, y)]) = (envL Lj).ext (x.nd y).text y) := envL_snoc _ _
              have HRD := hid (prm_round HES.out HY.out)
              have HRK := hid HKN.out
              rw [prm_drop _ _ _ HY.out] at HRK
              rw [hdd, HKL.out] at HRD HRK
              clear O5 G5 NN5 hk6 f0 f1 f2 f3 y0 y1 y2 y3 y4 HES HKN
              go_wp2
              go_roundw
              case rel =>
                refine ⟨q + 1, true, Lj ++ [((x.nd y).text, y)], g6, c6, _, by omega, by go_num, rfl, rfl, by rw [List.length_append, HLJ.out]; rfl, HK6.out, hb6, HEX.out, ?_, ?_⟩
                · rw [HE6.out, HTQ.out, HKL.out]
                  exact HRD.out
                · rw [HE6.out, HTQ.out]
                  exact HRK.out
              case measure => simp [intOf]; omega
            · go_wp2_with (first
                | (go_at_call 47; refine (HZ2.out _ cfc bnc _ HAC.out (HT.out.go HSC.out) HOC.out (HKR.out.keep (HSR.out.block gi HKR.out.lt HSgi.out))).mono ?_; rintro e w4 ⟨rfl, hen0⟩; have HEN := hid (mends_join HSC.out HNC.out hen0); have HSR := hid (HSR.out.trans hen0.1); clear hen0 HSC HAC HNC HOC f0 f1 f2 f3 k0 y0 y1 y2 y3 y4; obtain ⟨hsc, cfc, bnc, hac, hoc, hnc⟩ := HEN.out; have HSC := hid hsc; have HAC := hid hac; have HOC := hid hoc; have HNC := hid hnc; clear hsc hac hoc hnc HEN; obtain ⟨f0, f1, f2, f3⟩ := (HT.out _ HSC.out).four; obtain ⟨y0, y1, y2, y3, y4⟩ := (HT.out _ HSC.out).2.1 y hyN)
                | (at_builtin; refine wpList_append_own_at _ rfl (.tmp 91) (.tmp 103) 75 rfl w.heap.size 78 i0 (.agg #[.string ⟨#[]⟩, .int .i64 0]) 2 24 Tryd.underlying75 HHI.out.1 HHI.out.2.1 HHI.out.2.2.1 HHI.out.2.2.2 rfl (by decide) (.slice (some ⟨gi, 0, none⟩) (nL + q) ci) _ _ rfl (HKO.out _ (HSR.out.alloc _)) ⟨_, 0, none⟩ 1 1 [.string (x.nd y).text, .int .i64 y] rfl rfl (cell_two_new _ _ _ _) (by simp [Value.oneCell']) (by unfold maxLen; omega) (by omega) (by have := HSC.out.size; simp; omega) ?_; intro v5 w5 o5 g5 nn5 b5; have O5 := hid o5; have G5 := hid g5; have NN5 := hid nn5; clear o5 g5 nn5 b5))
              obtain ⟨g6, c6, rfl, hb6, hk6⟩ := KnR.of_own (L := Lj ++ [((x.nd y).text, y)]) (by rw [knRow_append]; exact O5.out) (by rw [List.length_append, HLJ.out]; rfl) (some_not_nil NN5.out)
              have HK6 := hid hk6
              have HEX : Hid (x.Ends w w5 F bn (es ++ ((x.o.getD y []).flatMap (fun j => wk x.nd x.o j (envL Lj)) ++ (flt8 (inL (x.nd y).text ((ps.take q).map fun q => (x.nd q).text).reverse) y 8 ++ flt8 (true && (x.o.getD y []).isEmpty) y 10)))) := by
                rw [HDUP.out, HKL.out]
                refine Mx.Ends.grown (gi := gi) (Mx.Ends.turn ?_) G5.out hgi HSgi.out
                rw [show flt8 (true && [z].isEmpty) y 10 = [] from rfl, List.append_nil, List.flatMap_cons, List.flatMap_nil, List.append_nil]
                exact ⟨HSC.out, cfc, bnc, HAC.out, HOC.out, HNC.out⟩
              have HE6 : Hid (envL (Lj ++ [((x.nd y).text, y)]) = (envL Lj).ext (x.nd y).text y) := envL_snoc _ _
              have HRD := hid (prm_round HES.out HY.out)
              have HRK := hid HKN.out
              rw [prm_drop _ _ _ HY.out] at HRK
              rw [hdd, HKL.out] at HRD HRK
              clear O5 G5 NN5 hk6 f0 f1 f2 f3 y0 y1 y2 y3 y4 HES HKN
              go_wp2
              go_roundw
              case rel =>
                refine ⟨q + 1, true, Lj ++ [((x.nd y).text, y)], g6, c6, _, by omega, by go_num, rfl, rfl, by rw [List.length_append, HLJ.out]; rfl, HK6.out, hb6, HEX.out, ?_, ?_⟩
                · rw [HE6.out, HTQ.out, HKL.out]
                  exact HRD.out
                · rw [HE6.out, HTQ.out]
                  exact HRK.out
              case measure => simp [intOf]; omega
    · obtain rfl : j = m := by omega
      have c0 := HP.out _ HSC.out j (by omega)
      rw [List.getD_eq_getElem?_getD, List.getElem?_append_right (by have := HM.out; omega), HM.out, Nat.sub_self] at c0
      simp only [List.getElem?_cons_zero, Option.getD_some] at c0
      have e : ps.drop j = [] := List.drop_eq_nil_of_le (by have := HM.out; omega)
      rw [e] at HES HKN
      simp only [prm, List.append_nil] at HES HKN
      have e2 : es = (prm x.nd x.o (fun kn j => wk x.nd x.o j kn) ps (envL L) [] false).1 := HES.out
      have e3 : envL Lj = (prm x.nd x.o (fun kn j => wk x.nd x.o j kn) ps (envL L) [] false).2 := HKN.out
      have hbl : Lj.length + 10 * l ≤ 2000000 := by rw [HLJ.out]; omega
      have HZ2 : Hid (∀ (F : Nat × Nat → Prop) (cf : Nat → Nat) (bn : Nat → Int) (w : World), x.At w cf bn → Stb x.S w x.Tree → CodesOk cf F → KnR w gi ci Lj →
          Calls Tryd.prog 47 #[.pointer (some ⟨x.wb, 0, none⟩), .int .i64 l, .slice (some ⟨gi, 0, none⟩) (nL + j) ci] w fun e w' => e = .returned (.tuple #[]) ∧ x.Ends w w' F bn (wk x.nd x.o l (prm x.nd x.o (fun kn j => wk x.nd x.o j kn) ps (envL L) [] false).2)) := fun F cf bn w h1 h2 h3 h4 => by
        have := HL.out Lj gi ci F cf bn w hbl h1 h2 h3 h4 HSgi.out
        rw [HLJ.out, e3] at this
        exact this
      rw [e2] at HOC HNC
      clear e e2 e3 hbl
      go_wp2_with (first
        | (go_at_call 47; refine (HZ2.out _ cfc bnc _ HAC.out (HT.out.go HSC.out) HOC.out HKR.out).mono ?_; rintro e w4 ⟨rfl, hen0⟩; have HEN := hid (mends_join HSC.out HNC.out hen0); clear hen0))
      go_end0
      exact ⟨rfl, HEN.out⟩
end Go.Proofs.YtpobfklbbkdglaaDoor
