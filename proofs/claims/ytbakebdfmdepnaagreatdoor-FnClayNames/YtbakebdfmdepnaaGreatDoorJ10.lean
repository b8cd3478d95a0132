import Derived.Test.YtbakebdfmdepnaaGreatDoorJ09
import Derived.Test.YtbakebdfmdepnaaGreatDoorJ07
namespace Go.Proofs.YtbakebdfmdepnaaGreatDoor
open Go.RowKit
set_option maxRecDepth 20000
def KidsEnd (nd : Nat → Nd) (N : Nat) (w w' : World) (e : Ending) : Prop :=
 Below w.heap.size w w' ∧ ((∃ v, e = .returned (.tuple #[v, .bool false]) ∧ ∀ o x, ¬ kidsF nd N = some (o, [x])) ∨
  ∃ L x go co, e = .returned (.tuple #[.slice (some ⟨go, 0, none⟩) L.length co, .bool true]) ∧ kidsF nd N = some (L.map (·.2.2), [x]) ∧ RowAt w' 30 go co L.length (gridRow L) ∧ w.heap.size ≤ go ∧
   ∀ x ∈ L, w.heap.size ≤ x.1 ∧ RowAt w' 3 x.1 x.2.1 x.2.2.length (intRow x.2.2))
theorem kids_len {nd : Nat → Nd} {B : Nat} {W0 W : World} {j : Nat} {L : List (Nat × Nat × List Nat)} {s : List Nat} {go co gs cs : Nat} (h : KInv nd B W0 W j L s go co gs cs) : L.length = j ∧ s.length ≤ j := by
 have := kidsF_len nd j _ _ h.1
 rw [List.length_map] at this
 exact ⟨this.1, this.2.1⟩
theorem tail_cells {W : World} {g cap n p : Nat} {sp sk : List Nat} (h : RowAt W 3 g cap n (intRow (sp ++ sk))) (hp : sp.length = p) : ∀ j u, (intRow sk)[j]? = some u → W.cell? ((⟨g, p, none⟩ : Addr).add j) = some u := by
 intro j u hj
 have hjl : j < sk.length := by
  have := (List.getElem?_eq_some_iff.1 hj).1
  rwa [intRow_length] at this
 have hn : n = sp.length + sk.length := by rw [← h.1, intRow_length, List.length_append]
 have e : ((⟨g, p, none⟩ : Addr).add j) = ⟨g, p + j, none⟩ := by unfold Addr.add; simp
 rw [e, h.cell (p + j) (by omega), intRow_append, List.getElem?_append_right (by rw [intRow_length]; omega), intRow_length, hp, Nat.add_sub_cancel_left]
 exact hj
theorem some_not_nil {a : Addr} {n c : Nat} {P : Prop} {v : Value} (h : v = .slice none 0 0 ↔ Value.slice (some a) n c = .slice none 0 0 ∧ P) : ¬ v = .slice none 0 0 := fun e => by have := (h.1 e).1; cases this
set_option maxHeartbeats 2000000 in
theorem l2Kids_any (b N cap : Nat) (nd : Nat → Nd) (w : World) (hN : N ≤ 5000) (hb : b < w.heap.size) (hn : NodesAt w b N nd) :
  Calls Tryz.prog 24 #[.agg #[.slice (some ⟨b, 0, none⟩) N cap]] w fun e w' => KidsEnd nd N w w' e := by
 have HN := hid hn
 clear hn
 obtain ⟨i0, hi, hz0, hz1, hz2⟩ := info_parts info_int
 have HHI := hid (And.intro hi (And.intro hz0 (And.intro hz1 hz2)))
 clear hi hz0 hz1 hz2
 obtain ⟨i1, hi, hz0, hz1, hz2⟩ := info_parts info_ints
 have HHS := hid (And.intro hi (And.intro hz0 (And.intro hz1 hz2)))
 clear hi hz0 hz1 hz2
 go_enter Tryz.func24, Tryz.ntmps24
 go_wp2
 go_loopw [4, 5, 6] (fun vo vs i wr => ∃ (j : Nat) (L : List (Nat × Nat × List Nat)) (s : List Nat) (go co gs cs : Nat), j ≤ N ∧ i = .int .i64 j ∧ vo = .slice (some ⟨go, 0, none⟩) L.length co ∧ vs = .slice (some ⟨gs, 0, none⟩) s.length cs ∧
   KInv nd (w.heap.size + 1) (w.alloc (.cells #[.slice (some ⟨b, 0, none⟩) N cap] 25)) wr j L s go co gs cs) (fun _ _ i _ => N - (intOf i).toNat)
 case atStart =>
  refine ⟨0, [], [], w.heap.size + 1, 0, w.heap.size + 2, 0, Nat.zero_le _, rfl, rfl, rfl, rfl, ?_, ?_, by omega, by omega, by omega, by simp, ?_⟩
  ·refine ⟨rfl, Nat.le_refl _, by unfold maxLen; omega, #[], ?_, rfl, rfl⟩
   have e : ∀ (a b : Obj), ((w.alloc a).alloc b).heap[w.heap.size + 1]? = some b := fun a b => by
    have := heap_alloc_new (w.alloc a) b
    rwa [World.size_alloc] at this
   rw [Below.heap_alloc _ _ _ (by simp)]
   exact e _ _
  ·refine ⟨rfl, Nat.le_refl _, by unfold maxLen; omega, #[], ?_, rfl, rfl⟩
   have e : ∀ (a b c : Obj), (((w.alloc a).alloc b).alloc c).heap[w.heap.size + 2]? = some c := fun a b c => by
    have := heap_alloc_new ((w.alloc a).alloc b) c
    rwa [World.size_alloc, World.size_alloc] at this
   exact e _ _ _
  ·exact ((Below.refl _ _).alloc (by simp) _).alloc (by simp) _
 case round =>
  obtain ⟨j, L, s, go, co, gs, cs, hj, rfl, rfl, rfl, hinv⟩ := hrel
  have HI := hid hinv
  have hlen := kids_len hinv
  clear hinv
  obtain ⟨hLl, hsl⟩ := hlen
  have hLb : L.length ≤ 5000 := by omega
  clear hLl
  have t0 := tree_cell HI.out.2.2.2.2.2.2.2
  by_cases hlt : j < N
  ·obtain ⟨_, _, _, _, a4⟩ := (HN.out.below (btree HI.out.2.2.2.2.2.2.2) hb) j hlt
   by_cases hok : 0 ≤ (nd j).kids ∧ (nd j).kids ≤ s.length
   ·obtain ⟨k, hk⟩ := Int.eq_ofNat_of_zero_le hok.1
    have hks : k ≤ s.length := by omega
    clear hok
    obtain ⟨sp, sk, hs, hsk⟩ : ∃ sp sk, s = sp ++ sk ∧ sk.length = k := ⟨s.take (s.length - k), s.drop (s.length - k), (List.take_append_drop _ _).symm, by simp; omega⟩
    subst hs
    obtain ⟨p, hp⟩ : ∃ p, sp.length = p := ⟨_, rfl⟩
    have hpk : (sp ++ sk).length = p + k := by rw [List.length_append, hp, hsk]
    have HK := hid hk
    rw [hk] at a4
    rw [hpk] at hks hsl ⊢
    have hBz : w.heap.size + 1 ≤ wr.heap.size := by have := HI.out.2.2.2.2.2.2.2.size; simpa using this
    have hcs : p + k ≤ cs := by have := HI.out.2.2.1.2.1; omega
    have hgo := HI.out.2.1.lt
    have hgs := HI.out.2.2.1.lt
    have hgne := HI.out.2.2.2.1
    have OWN1 := hid (World.ownsRow_made (e := 3) (size := 1) wr #[] 0 hBz (by unfold maxLen; omega) rfl)
    have R2 := hid HI.out.2.1
    have R3 : Hid (RowAt wr 3 gs cs p (intRow sp)) := by
     have := HI.out.2.2.1
     rw [intRow_append] at this
     have := this.front
     rw [intRow_length, hp] at this
     exact this
    have TC := hid (tail_cells (HI.out.2.2.1.alloc (.cells #[] 3)) hp)
    have hskl : (intRow sk).length = k * 1 := by rw [intRow_length, hsk, Nat.mul_one]
    have HSK := hid hskl
    clear hskl
    by_cases hcp : cs = p
    ·subst hcp
     obtain rfl : k = 0 := by omega
     obtain rfl : sk = [] := List.length_eq_zero_iff.1 hsk
     simp only [Nat.add_zero] at *
     go_wp2_with (first
      | (at_builtin; refine wpList_append_own_at _ rfl (.tmp 33) (.tmp 39) 30 rfl (w.heap.size + 1) 3 i0 (.int .i64 0) 1 8 Tryz.underlying30 HHI.out.1 HHI.out.2.1 HHI.out.2.2.1 HHI.out.2.2.2 rfl (by decide) _ _ _ rfl OWN1.out ⟨gs, 0, none⟩ 0 (0) (intRow []) rfl rfl (fun j u h => by cases h) (intRow_one []) (by unfold maxLen; omega) (by omega) (by simp; omega) ?_; intro v1 w1 o1 g1 nn1 b1; rw [Nat.zero_add, List.nil_append] at o1; have hnn1 := some_not_nil nn1; clear nn1; obtain ⟨r1, d1, rfl, rb1, rr1⟩ := RowAt.of_own o1 hnn1; have O1 := hid o1; have G1 := hid g1; have NN1 := hid hnn1; have B1 := hid b1; have hs1 := g1.size; clear o1 g1 hnn1 b1 rr1)
      | (at_builtin; refine wpList_append_own_at _ rfl (.tmp 32) (.tmp 41) 40 rfl (w.heap.size + 1) 30 i1 (.slice none 0 0) 1 24 Tryz.underlying40 HHS.out.1 HHS.out.2.1 HHS.out.2.2.1 HHS.out.2.2.2 rfl (by decide) (.slice (some ⟨go, 0, none⟩) L.length co) L.length (gridRow L) rfl (((((R2.out.alloc _).grown G1.out (fun e => by injection e with e; exact absurd e (Nat.ne_of_gt hgo))).alloc _).own HI.out.2.2.2.2.1)) ⟨w1.heap.size, 0, none⟩ 1 1 [.slice (some ⟨r1, 0, none⟩) 0 d1] rfl rfl (cell_one_new _ _ _) (by simp [Value.oneCell']) (by unfold maxLen; omega) (by omega) (by simp at hs1; simp; omega) ?_; intro v2 w2 o2 g2 nn2 b2; have hnn2 := some_not_nil nn2; have O2 := hid o2; have G2 := hid g2; have NN2 := hid hnn2; have B2 := hid b2; have hs2 := g2.size; clear o2 g2 nn2 hnn2 b2)
      | (at_builtin; refine wpList_append_own_at _ rfl (.tmp 48) (.tmp 50) 30 rfl (w.heap.size + 1) 3 i0 (.int .i64 0) 1 8 Tryz.underlying30 HHI.out.1 HHI.out.2.1 HHI.out.2.2.1 HHI.out.2.2.2 rfl (by decide) (.slice (some ⟨gs, 0, none⟩) cs cs) cs (intRow sp) rfl (((((((R3.out.alloc _).grown G1.out (fun e => by injection e with e; exact absurd e (Nat.ne_of_gt hgs))).alloc _).grown G2.out (fun e => by injection e with e; exact hgne e)).alloc _).own HI.out.2.2.2.2.2.1)) ⟨w2.heap.size, 0, none⟩ 1 1 [.int .i64 j] rfl rfl (cell_one_new _ _ _) (by simp [Value.oneCell']) (by unfold maxLen; omega) (by omega) (by simp at hs1 hs2; simp; omega) ?_; intro v3 w3 o3 g3 nn3 b3; have hnn3 := some_not_nil nn3; have O3 := hid o3; have G3 := hid g3; have NN3 := hid hnn3; have B3 := hid b3; clear o3 g3 nn3 hnn3 b3))
     have ST := hid (KInv_step HI.out hBz HK.out hsk O1.out G1.out NN1.out B1.out O2.out G2.out NN2.out B2.out (by rw [hp]; exact O3.out) G3.out NN3.out B3.out)
     clear O1 G1 NN1 B1 O2 G2 NN2 B2 O3 G3 NN3 B3
     go_wp2
     go_roundw
     case rel =>
      obtain ⟨L', s', go', co', gs', cs', e1, e2, hnew⟩ := ST.out
      exact ⟨j + 1, L', s', go', co', gs', cs', by omega, by go_num, e1, e2, hnew⟩
     case measure => simp [intOf]; omega
    ·go_wp2_with (first
      | (at_builtin; refine wpList_append_own_at _ rfl (.tmp 33) (.tmp 39) 30 rfl (w.heap.size + 1) 3 i0 (.int .i64 0) 1 8 Tryz.underlying30 HHI.out.1 HHI.out.2.1 HHI.out.2.2.1 HHI.out.2.2.2 rfl (by decide) _ _ _ rfl OWN1.out ⟨gs, p, none⟩ k (cs - p) (intRow sk) rfl HSK.out TC.out (intRow_one sk) (by unfold maxLen; omega) (by omega) (by simp; omega) ?_; intro v1 w1 o1 g1 nn1 b1; rw [Nat.zero_add, List.nil_append] at o1; have hnn1 := some_not_nil nn1; clear nn1; obtain ⟨r1, d1, rfl, rb1, rr1⟩ := RowAt.of_own o1 hnn1; have O1 := hid o1; have G1 := hid g1; have NN1 := hid hnn1; have B1 := hid b1; have hs1 := g1.size; clear o1 g1 hnn1 b1 rr1)
      | (at_builtin; refine wpList_append_own_at _ rfl (.tmp 32) (.tmp 41) 40 rfl (w.heap.size + 1) 30 i1 (.slice none 0 0) 1 24 Tryz.underlying40 HHS.out.1 HHS.out.2.1 HHS.out.2.2.1 HHS.out.2.2.2 rfl (by decide) (.slice (some ⟨go, 0, none⟩) L.length co) L.length (gridRow L) rfl (((((R2.out.alloc _).grown G1.out (fun e => by injection e with e; exact absurd e (Nat.ne_of_gt hgo))).alloc _).own HI.out.2.2.2.2.1)) ⟨w1.heap.size, 0, none⟩ 1 1 [.slice (some ⟨r1, 0, none⟩) k d1] rfl rfl (cell_one_new _ _ _) (by simp [Value.oneCell']) (by unfold maxLen; omega) (by omega) (by simp at hs1; simp; omega) ?_; intro v2 w2 o2 g2 nn2 b2; have hnn2 := some_not_nil nn2; have O2 := hid o2; have G2 := hid g2; have NN2 := hid hnn2; have B2 := hid b2; have hs2 := g2.size; clear o2 g2 nn2 hnn2 b2)
      | (at_builtin; refine wpList_append_own_at _ rfl (.tmp 48) (.tmp 50) 30 rfl (w.heap.size + 1) 3 i0 (.int .i64 0) 1 8 Tryz.underlying30 HHI.out.1 HHI.out.2.1 HHI.out.2.2.1 HHI.out.2.2.2 rfl (by decide) (.slice (some ⟨gs, 0, none⟩) p cs) p (intRow sp) rfl (((((((R3.out.alloc _).grown G1.out (fun e => by injection e with e; exact absurd e (Nat.ne_of_gt hgs))).alloc _).grown G2.out (fun e => by injection e with e; exact hgne e)).alloc _).own HI.out.2.2.2.2.2.1)) ⟨w2.heap.size, 0, none⟩ 1 1 [.int .i64 j] rfl rfl (cell_one_new _ _ _) (by simp [Value.oneCell']) (by unfold maxLen; omega) (by omega) (by simp at hs1 hs2; simp; omega) ?_; intro v3 w3 o3 g3 nn3 b3; have hnn3 := some_not_nil nn3; have O3 := hid o3; have G3 := hid g3; have NN3 := hid hnn3; have B3 := hid b3; clear o3 g3 nn3 hnn3 b3))
     have ST := hid (KInv_step HI.out hBz HK.out hsk O1.out G1.out NN1.out B1.out O2.out G2.out NN2.out B2.out (by rw [hp]; exact O3.out) G3.out NN3.out B3.out)
     clear O1 G1 NN1 B1 O2 G2 NN2 B2 O3 G3 NN3 B3
     go_wp2
     go_roundw
     case rel =>
      obtain ⟨L', s', go', co', gs', cs', e1, e2, hnew⟩ := ST.out
      exact ⟨j + 1, L', s', go', co', gs', cs', by omega, by go_num, e1, e2, hnew⟩
     case measure => simp [intOf]; omega
   ·have HBAD := hid (kidsF_bad HI.out.1 hok N hlt)
    by_cases hneg : (nd j).kids < 0
    ·go_wp2
     refine bodyPost_ret (v := .tuple #[.slice (some ⟨go, 0, none⟩) L.length co, .bool false]) (by simp [results, Tryz.results24, go_sem]) rfl ⟨btree HI.out.2.2.2.2.2.2.2, .inl ⟨_, rfl, fun o x h => ?_⟩⟩
     rw [HBAD.out] at h; cases h
    ·have hge : 0 ≤ (nd j).kids := by omega
     have hgt : (s.length : Int) < (nd j).kids := by omega
     go_wp2
     refine bodyPost_ret (v := .tuple #[.slice (some ⟨go, 0, none⟩) L.length co, .bool false]) (by simp [results, Tryz.results24, go_sem]) rfl ⟨btree HI.out.2.2.2.2.2.2.2, .inl ⟨_, rfl, fun o x h => ?_⟩⟩
     rw [HBAD.out] at h; cases h
  ·obtain rfl : j = N := by omega
   by_cases h1 : s.length = 1
   ·obtain ⟨x, rfl⟩ := List.length_eq_one_iff.1 h1
    go_wp2
    refine bodyPost_ret (v := .tuple #[.slice (some ⟨go, 0, none⟩) L.length co, .bool true]) (by simp [results, Tryz.results24, go_sem]) rfl ⟨btree HI.out.2.2.2.2.2.2.2, .inr ⟨L, x, go, co, rfl, HI.out.1, HI.out.2.1, by have := HI.out.2.2.2.2.1; omega, fun x hx => ?_⟩⟩
    obtain ⟨x1, _, _, x4⟩ := HI.out.2.2.2.2.2.2.1 x hx
    exact ⟨by omega, x4⟩
   ·have h2 : ((s.length : Int) == 1) = false := by simp; omega
    go_wp2
    refine bodyPost_ret (v := .tuple #[.slice (some ⟨go, 0, none⟩) L.length co, .bool false]) (by simp [results, Tryz.results24, go_sem]) rfl ⟨btree HI.out.2.2.2.2.2.2.2, .inl ⟨_, rfl, fun o x h => ?_⟩⟩
    rw [HI.out.1] at h
    injection h with h
    injection h with _ h
    rw [h] at h1
    exact h1 rfl
theorem NdOk.over {K : Nat} {la : List Nd} {x : Nd} (h : NdOk K la) (hx : x.text.size ≤ 1000) : NdOk (K + 1) (la ++ [x]) := by
 refine ⟨by rw [List.length_append]; have := h.1; show _ + 1 ≤ _; omega, fun y hy => ?_⟩
 rcases List.mem_append.1 hy with hy | hy
 ·exact h.2 y hy
 ·rw [List.mem_singleton] at hy; subst hy; exact hx
theorem NdOk.app {K K' : Nat} {la lb : List Nd} (h : NdOk K la) (h' : NdOk K' lb) : NdOk (K + K') (la ++ lb) := by
 refine ⟨by rw [List.length_append]; have := h.1; have := h'.1; omega, fun y hy => ?_⟩
 rcases List.mem_append.1 hy with hy | hy
 ·exact h.2 y hy
 ·exact h'.2 y hy
theorem NdOk.one {x : Nd} (hx : x.text.size ≤ 1000) : NdOk 1 [x] := ⟨Nat.le_refl _, fun y hy => by rw [List.mem_singleton] at hy; subst hy; exact hx⟩
theorem NdIn.sl {w : World} {v : Value} {l : List Nd} (h : NdIn w v l) : ∃ g n c, v = .slice (some ⟨g, 0, none⟩) n c := by obtain ⟨_, g, c, _, e, _⟩ := h; exact ⟨g, _, _, e⟩
set_option maxHeartbeats 1000000 in
theorem l2Deep_any (n : Nat) (w : World) (hn : n ≤ 1000) :
  Calls Tryz.prog 54 #[.int .i64 n] w fun e w' => (∃ v l, e = .returned (.agg #[v]) ∧ NdIn w' v l ∧ NdOk 2000 l) ∧ Below w.heap.size w w' := by
 go_enter Tryz.func54, Tryz.ntmps54
 go_wp2_with fail
 refine (intNode_any 1 _).mono ?_
 rintro e w1 ⟨v, rfl, h1, h2⟩
 have H1 := hid h1
 have H2 := hid h2
 obtain ⟨g1, n1, c1, rfl⟩ := h1.sl
 clear h1 h2
 go_wp2
 go_loopw [3, 4] (fun v a wr => ∃ (j : Nat) (l : List Nd), j ≤ n ∧ a = .int .i64 j ∧ NdIn wr v l ∧ NdOk (j + 1) l ∧ Below (w.alloc (.cells #[.slice none 0 0] 25)).heap.size (w.alloc (.cells #[.slice none 0 0] 25)) wr) (fun _ a _ => n - (intOf a).toNat)
 case atStart => exact ⟨0, _, Nat.zero_le _, rfl, H1.out, NdOk.one (by decide), H2.out⟩
 case round =>
  obtain ⟨j, l, hj, rfl, hnd, hok, hb⟩ := hrel
  have HND := hid hnd
  have HOK := hid hok
  have HB := hid hb
  have hll := hok.1
  have hz := hb.size
  obtain ⟨g, m, c, rfl⟩ := hnd.sl
  clear hnd hok hb
  have hw : IntKind.i64.wrap ((n : Int) - 2) = (n : Int) - 2 := by rw [IntKind.wrap_i64]; omega
  by_cases hlt : (j : Int) < (n : Int) - 2
  ·go_wp2_with fail
   refine (over1 ⟨6, 2, 0, ⟨#[]⟩, 0⟩ _ l wr HND.out (by omega)).mono ?_
   rintro e w2 ⟨v, rfl, h1, h2⟩
   have H3 := hid h1
   have H4 := hid (HB.out.trans (h2.mono hz))
   obtain ⟨g2, n2, c2, rfl⟩ := h1.sl
   clear h1 h2
   go_wp2
   go_roundw
   case rel => exact ⟨j + 1, _, by omega, by go_num, H3.out, HOK.out.over (by decide), H4.out⟩
   case measure => simp [intOf]; omega
  ·have hge : (n : Int) - 2 ≤ j := by omega
   go_wp2_with fail
   refine (over1 ⟨21, 0, 0, ⟨#[120]⟩, 0⟩ _ l wr HND.out (by omega)).mono ?_
   rintro e w2 ⟨v, rfl, h1, h2⟩
   have H3 := hid h1
   have H4 := hid (HB.out.trans (h2.mono hz))
   have hz2 := h2.size
   obtain ⟨g2, n2, c2, rfl⟩ := h1.sl
   clear h1 h2
   go_wp2_with fail
   refine (over1 ⟨24, 0, 0, ⟨#[]⟩, 0⟩ _ _ w2 H3.out (by rw [List.length_append]; show _ + 1 ≤ _; omega)).mono ?_
   rintro e w3 ⟨v, rfl, h1, h2⟩
   have H5 := hid h1
   have H6 := hid (H4.out.trans (h2.mono (by omega)))
   obtain ⟨g3, n3, c3, rfl⟩ := h1.sl
   have hh : w3.heap[w.heap.size]? = some (.cells #[.slice none 0 0] 25 (0, 0)) := (H6.out.block w.heap.size (by simp)).trans (heap_alloc_new w _)
   have e0 := cell_hp hh 0
   have e1 := frozen_hp hh 0
   simp at e0
   clear h1 h2
   have hset := cell_hp (set_at (i := 0) (.slice (some ⟨g3, 0, none⟩) n3 c3) hh) 0
   simp at hset
   have HBF : Hid (Below w.heap.size w (w3.setCell ⟨w.heap.size, 0, none⟩ (.slice (some ⟨g3, 0, none⟩) n3 c3))) := (((Below.refl w.heap.size w).alloc (Nat.le_refl _) _).trans (H6.out.mono (by simp))).setCell (p := ⟨w.heap.size, 0, none⟩) (Nat.le_refl _) _
   have HNF : Hid (NdIn (w3.setCell ⟨w.heap.size, 0, none⟩ (.slice (some ⟨g3, 0, none⟩) n3 c3)) (.slice (some ⟨g3, 0, none⟩) n3 c3) _) := H5.out.keep fun g cur hc => Below.heap_setCell _ _ _ _ (fun e => by
    have e2 : g = w.heap.size := e
    subst e2; rw [hh] at hc; cases hc)
   have HOF := hid ((HOK.out.over (x := { (⟨21, 0, 0, ⟨#[120]⟩, 0⟩ : Nd) with kids := 1 }) (by decide)).over (x := { (⟨24, 0, 0, ⟨#[]⟩, 0⟩ : Nd) with kids := 1 }) (by decide))
   clear hh
   go_wp2
   exact bodyPost_ret (v := .agg #[.slice (some ⟨g3, 0, none⟩) n3 c3]) (by simp [results, Tryz.results54, go_sem, hset]) rfl ⟨⟨_, _, rfl, HNF.out, HOF.out.mono (by omega)⟩, HBF.out⟩
structure Fn where
 name : ByteArray
 pad : Option Addr
 pn : Nat
 pc : Nat
 free : Nat
 kind : Int
def seenRow : List (ByteArray × Int) → List Value
 | [] => []
 | x :: l => .string x.1 :: .int .i64 x.2 :: seenRow l
def fnRow : List Fn → List Value
 | [] => []
 | f :: l => .string f.name :: .slice f.pad f.pn f.pc :: .int .i64 f.free :: .int .i64 f.kind :: fnRow l
def FnOk (w : World) (f : Fn) : Prop := f.name.size ≤ 100 ∧ f.pn ≤ 3 ∧ f.free ≤ f.pn ∧ (f.pn = 0 ∨ ∃ (g : Nat) (cur : Array Value), f.pad = some ⟨g, 0, none⟩ ∧ w.heap[g]? = some (.cells cur 3 (0, 0)) ∧ ∀ i, i < f.pn → ∃ k : Int, cur[i]? = some (.int .i64 k))
def GenT (t : TypeId) : Prop := t = 66 ∨ t = 108 ∨ t = 130
structure Gk (B : Nat) (w w' : World) : Prop where
 os : w'.os = w.os
 tape : w'.tape = w.tape
 output : w'.output = w.output
 size : w.heap.size ≤ w'.heap.size
 low : ∀ k, k < B → w'.heap[k]? = w.heap[k]?
 block : ∀ (k : Nat) cs t fr, w.heap[k]? = some (.cells cs t fr) → ¬ GenT t → w'.heap[k]? = w.heap[k]?
 fld : ∀ (k : Nat) cs fr, w.heap[k]? = some (.cells cs 108 fr) → ∃ cs', w'.heap[k]? = some (.cells cs' 108 fr) ∧ cs'[2]? = cs[2]?
theorem Gk.refl (B : Nat) (w : World) : Gk B w w := ⟨rfl, rfl, rfl, Nat.le_refl _, fun _ _ => rfl, fun _ _ _ _ _ _ => rfl, fun _ cs _ h => ⟨cs, h, rfl⟩⟩
theorem Gk.trans {B : Nat} {u v w : World} (h : Gk B u v) (k : Gk B v w) : Gk B u w :=
 ⟨k.os.trans h.os, k.tape.trans h.tape, k.output.trans h.output, Nat.le_trans h.size k.size, fun i hi => (k.low i hi).trans (h.low i hi), fun i cs t fr hc ht => (k.block i cs t fr ((h.block i cs t fr hc ht).trans hc) ht).trans (h.block i cs t fr hc ht), fun i cs fr hc => by
  obtain ⟨cs1, h1, e1⟩ := h.fld i cs fr hc
  obtain ⟨cs2, h2, e2⟩ := k.fld i cs1 fr h1
  exact ⟨cs2, h2, e2.trans e1⟩⟩
theorem Gk.of_below {B : Nat} {w w' : World} (h : Below w.heap.size w w') (hB : B ≤ w.heap.size) : Gk B w w' := ⟨h.os, h.tape, h.output, h.size, fun k hk => h.block k (by omega), fun k _ _ _ hc _ => h.block k (Array.getElem?_eq_some_iff.1 hc).1, fun k cs _ hc => ⟨cs, (h.block k (Array.getElem?_eq_some_iff.1 hc).1).trans hc, rfl⟩⟩
theorem Gk.of_sv {B R : Nat} {w w' : World} (h : Sv (fun k => k = R) w w') (hB : B ≤ R) (hR : R < w.heap.size) {cs : Array Value} {fr : Nat × Nat} {t : TypeId} (hc : w.heap[R]? = some (.cells cs t fr)) (ht : GenT t) (ht2 : t ≠ 108) : Gk B w w' :=
 ⟨h.os, h.tape, h.output, h.size, fun k hk => h.block k (by omega) (by show ¬ k = R; omega), fun k cs' t' fr' hc' ht' => h.block k (Array.getElem?_eq_some_iff.1 hc').1 (fun e => by subst e; rw [hc] at hc'; cases hc'; exact ht' ht), fun k cs' fr' hc' => ⟨cs', (h.block k (Array.getElem?_eq_some_iff.1 hc').1 (fun e => by subst e; rw [hc] at hc'; cases hc'; exact ht2 rfl)).trans hc', rfl⟩⟩
theorem Gk.set {B : Nat} {w w' : World} (h : Gk B w w') {G i : Nat} {cs : Array Value} {fr : Nat × Nat} {t : TypeId} (hc : w'.heap[G]? = some (.cells cs t fr)) (ht : GenT t) (hB : B ≤ G) (hi : i ≠ 2) (v : Value) : Gk B w (w'.setCell ⟨G, i, none⟩ v) :=
 h.trans ⟨rfl, rfl, rfl, by simp [World.setCell], fun k hk => Below.heap_setCell _ _ _ _ (by show k ≠ G; omega), fun k cs' t' fr' hc' ht' => Below.heap_setCell _ _ _ _ (fun e => by subst e; rw [hc] at hc'; cases hc'; exact ht' ht), fun k cs' fr' hc' => by
  by_cases e : k = G
  ·subst e
   refine ⟨cs'.setIfInBounds i v, ?_, by rw [Array.getElem?_setIfInBounds_ne hi]⟩
   unfold World.setCell
   simp only [Array.getElem?_modify, hc']
   simp
  ·exact ⟨cs', (Below.heap_setCell _ _ _ _ e).trans hc', rfl⟩⟩
theorem NdIn.gk {B : Nat} {w w' : World} {v : Value} {l : List Nd} (h : NdIn w v l) (hg : Gk B w w') : NdIn w' v l := h.keep fun g cur hc => hg.block g _ _ _ hc (by unfold GenT; decide)
theorem FnOk.gk {B : Nat} {w w' : World} {f : Fn} (h : FnOk w f) (hg : Gk B w w') : FnOk w' f := by
 obtain ⟨h1, h2, h3, h4⟩ := h
 refine ⟨h1, h2, h3, h4.imp_right ?_⟩
 rintro ⟨g, cur, e, a, b⟩
 exact ⟨g, cur, e, (hg.block g _ _ _ a (by unfold GenT; decide)).trans a, b⟩
structure GenAt (R G B : Nat) (w : World) (ns : List (ByteArray × Int)) (fs : List Fn) (c : Nat) (sz : Int) (p : Nat) : Prop where
 ex : ∃ vn vf, w.heap[G]? = some (.cells #[.pointer (some ⟨R, 0, none⟩), vn, vf, .int .i64 c, .int .i64 sz] 108 (0, 0)) ∧ w.ownsRow B 130 2 vn ns.length (seenRow ns) ∧ w.ownsRow B 140 4 vf fs.length (fnRow fs)
 rd : Rd R w p
 le : B ≤ R ∧ R < G
 nok : ∀ x ∈ ns, x.1.size ≤ 100
 fok : ∀ f ∈ fs, FnOk w f
theorem GenAt.next {R G B : Nat} {w w' : World} {ns : List (ByteArray × Int)} {fs : List Fn} {c : Nat} {sz : Int} {p : Nat} (h : GenAt R G B w ns fs c sz p) (hb : Below w.heap.size w w') : GenAt R G B w' ns fs c sz p := by
 obtain ⟨⟨vn, vf, h1, h2, h3⟩, h4, h5, h6, h7⟩ := h
 exact ⟨⟨vn, vf, (hb.block G (Array.getElem?_eq_some_iff.1 h1).1).trans h1, own_below h2 hb, own_below h3 hb⟩, h4.next hb, h5, h6, fun f hf => (h7 f hf).gk (Gk.of_below (B := 0) hb (Nat.zero_le _))⟩
theorem GenAt.bw {R G B : Nat} {w : World} {ns : List (ByteArray × Int)} {fs : List Fn} {c : Nat} {sz : Int} {p : Nat} (h : GenAt R G B w ns fs c sz p) : B ≤ w.heap.size := by have := h.rd.lt; have := h.le.1; omega
theorem own_setG {w : World} {B G i e size n : Nat} {v q : Value} {xs : List Value} (h : w.ownsRow B e size v n xs) {cs : Array Value} {t : TypeId} (hc : w.heap[G]? = some (.cells cs t (0, 0))) (ht : t ≠ e) : (w.setCell ⟨G, i, none⟩ q).ownsRow B e size v n xs := by
 have hne : v.ownBlock ≠ some G := by
  rcases h.2 with ⟨rfl, _⟩ | ⟨g, cap, cur, rfl, _, hg, _⟩
  ·simp [Value.ownBlock]
  ·intro e
   simp only [Value.ownBlock, Option.some.injEq] at e
   subst e
   rw [hg] at hc
   cases hc
   exact ht rfl
 exact h.kept (row := some G) ⟨rfl, rfl, rfl, by simp [World.setCell], fun k _ hk => Below.heap_setCell _ _ _ _ (fun e => hk (by simp [e]))⟩ (Or.inr hne)
theorem GenAt.count {R G B : Nat} {w : World} {ns : List (ByteArray × Int)} {fs : List Fn} {c : Nat} {sz : Int} {p : Nat} (h : GenAt R G B w ns fs c sz p) (c' : Nat) : GenAt R G B (w.setCell ⟨G, 3, none⟩ (.int .i64 c')) ns fs c' sz p ∧ Gk B w (w.setCell ⟨G, 3, none⟩ (.int .i64 c')) := by
 obtain ⟨⟨vn, vf, h1, h2, h3⟩, h4, h5, h6, h7⟩ := h
 have hg : Gk B w (w.setCell ⟨G, 3, none⟩ (.int .i64 c')) := (Gk.refl B w).set h1 (by unfold GenT; decide) (by omega) (by decide) _
 refine ⟨⟨⟨vn, vf, ?_, own_setG h2 h1 (by decide), own_setG h3 h1 (by decide)⟩, ?_, h5, h6, fun f hf => (h7 f hf).gk hg⟩, hg⟩
 ·have := set_at (i := 3) (.int .i64 (c' : Int)) h1
  simpa using this
 ·exact h4.sv (S := fun k => k = G) (Sv.setCell (S := fun k => k = G) (Sv.refl _ w) (p := ⟨G, 3, none⟩) (.inl rfl) _) (fun k e => by subst e; exact h5.2)
theorem GenAt.sized {R G B : Nat} {w : World} {ns : List (ByteArray × Int)} {fs : List Fn} {c : Nat} {sz : Int} {p : Nat} (h : GenAt R G B w ns fs c sz p) (s' : Int) : GenAt R G B (w.setCell ⟨G, 4, none⟩ (.int .i64 s')) ns fs c s' p ∧ Gk B w (w.setCell ⟨G, 4, none⟩ (.int .i64 s')) := by
 obtain ⟨⟨vn, vf, h1, h2, h3⟩, h4, h5, h6, h7⟩ := h
 have hg : Gk B w (w.setCell ⟨G, 4, none⟩ (.int .i64 s')) := (Gk.refl B w).set h1 (by unfold GenT; decide) (by omega) (by decide) _
 refine ⟨⟨⟨vn, vf, ?_, own_setG h2 h1 (by decide), own_setG h3 h1 (by decide)⟩, ?_, h5, h6, fun f hf => (h7 f hf).gk hg⟩, hg⟩
 ·have := set_at (i := 4) (.int .i64 s') h1
  simpa using this
 ·exact h4.sv (S := fun k => k = G) (Sv.setCell (S := fun k => k = G) (Sv.refl _ w) (p := ⟨G, 4, none⟩) (.inl rfl) _) (fun k e => by subst e; exact h5.2)
theorem GenAt.picked {R G B : Nat} {w w' : World} {ns : List (ByteArray × Int)} {fs : List Fn} {c : Nat} {sz : Int} {p p' : Nat} (h : GenAt R G B w ns fs c sz p) (hr : Rd R w' p') (hs : Sv (fun k => k = R) w w') : GenAt R G B w' ns fs c sz p' ∧ Gk B w w' := by
 obtain ⟨⟨vn, vf, h1, h2, h3⟩, h4, h5, h6, h7⟩ := h
 obtain ⟨ad, n, cap, hR, _⟩ := h4
 have hlt := (Array.getElem?_eq_some_iff.1 hR).1
 have hg : Gk B w w' := Gk.of_sv hs h5.1 hlt hR (by unfold GenT; decide) (by decide)
 have own : ∀ {e size n : Nat} {v : Value} {xs : List Value}, w.ownsRow B e size v n xs → 66 ≠ e → w'.ownsRow B e size v n xs := fun {e size n v xs} h ht => by
  obtain ⟨a1, a2 | ⟨g, cap, cur, b1, b2, b3, b4⟩⟩ := h
  ·exact ⟨a1, .inl a2⟩
  ·exact ⟨a1, .inr ⟨g, cap, cur, b1, b2, (hs.block g (Array.getElem?_eq_some_iff.1 b3).1 (fun e => by subst e; rw [hR] at b3; cases b3; exact ht rfl)).trans b3, b4⟩⟩
 exact ⟨⟨⟨vn, vf, (hs.block G (Array.getElem?_eq_some_iff.1 h1).1 (by show ¬ G = R; omega)).trans h1, own h2 (by decide), own h3 (by decide)⟩, hr, h5, h6, fun f hf => (h7 f hf).gk hg⟩, hg⟩
set_option maxHeartbeats 1000000 in
theorem fresh_any (R G B : Nat) (w : World) (ns : List (ByteArray × Int)) (fs : List Fn) (c : Nat) (sz : Int) (p : Nat) (h : GenAt R G B w ns fs c sz p) (hc : c ≤ 1000000) :
  Calls Tryz.prog 100 #[.pointer (some ⟨G, 0, none⟩)] w fun e w' => (∃ s : ByteArray, e = .returned (.string s) ∧ s.size ≤ 100) ∧ GenAt R G B w' ns fs (c + 1) sz p ∧ Gk B w w' := by
 obtain ⟨hG2, hk2⟩ := h.count (c + 1)
 have HG2 := hid hG2
 have HK2 := hid hk2
 obtain ⟨vn, vf, h1, h2, h3⟩ := h.ex
 have c3 := cell_hp h1 3
 have f3 := frozen_hp h1 3
 simp at c3
 have hB := h.bw
 have hw : IntKind.i64.wrap ((c : Int) + 1) = (c : Int) + 1 := by rw [IntKind.wrap_i64]; omega
 have c3' : (w.setCell ⟨G, 3, none⟩ (.int .i64 ((c : Int) + 1))).cell? ⟨G, 3, none⟩ = some (.int .i64 ((c : Int) + 1)) := by
  have h := cell_hp (set_at (i := 3) (.int .i64 ((c : Int) + 1)) h1) 3
  simpa using h
 have HD : Hid (∀ W, Calls Tryz.prog 55 #[.int .i64 ((c : Int) + 1)] W fun e w' => ∃ s : ByteArray, e = .returned (.string s) ∧ s.size ≤ 18 ∧ Below W.heap.size W w') := fun W => l1Dec_any 17 (c + 1) W (by omega) (by omega)
 clear hG2 hk2 h1 h2 h3 h
 go_enter Tryz.func100, Tryz.ntmps100
 go_wp2_with fail
 refine (HD.out _).mono ?_
 rintro e w1 ⟨s, rfl, hs, hb⟩
 have HS := hid hs
 have HB := hid hb
 clear hb
 go_wp2
 go_ret
 have hz : (w.setCell ⟨G, 3, none⟩ (.int .i64 ((c : Int) + 1))).heap.size = w.heap.size := by simp [World.setCell]
 exact ⟨⟨_, rfl, by rw [ByteArray.size_append]; have := HS.out; show 1 + s.size ≤ 100; omega⟩, HG2.out.next HB.out, HK2.out.trans (Gk.of_below HB.out (by rw [show ((c + 1 : Nat) : Int) = (c : Int) + 1 by omega, hz]; exact hB))⟩
theorem seenRow_get (ns : List (ByteArray × Int)) (i : Nat) (h : i < ns.length) : (seenRow ns)[i * 2]? = some (.string ns[i].1) ∧ (seenRow ns)[i * 2 + 1]? = some (.int .i64 ns[i].2) := by
 induction ns generalizing i with
 | nil => simp at h
 | cons x ns ih =>
  cases i with
  | zero => exact ⟨rfl, rfl⟩
  | succ i =>
   have := ih i (by simpa using h)
   rw [show (i + 1) * 2 = i * 2 + 2 by omega]
   exact ⟨this.1, this.2⟩
def NdAns (K : Nat) (e : Ending) (w : World) : Prop := (∃ v l, e = .returned (.tuple #[v, .bool true]) ∧ NdIn w v l ∧ NdOk K l) ∨ ∃ g c, e = .returned (.tuple #[.slice (some ⟨g, 0, none⟩) 0 c, .bool false])
set_option maxHeartbeats 2000000 in
theorem named_any (R G B : Nat) (kind : Int) (w : World) (ns : List (ByteArray × Int)) (fs : List Fn) (c : Nat) (sz : Int) (p : Nat) (h : GenAt R G B w ns fs c sz p) (hp : p ≤ 1000000) (hn : ns.length ≤ 1000000) :
  Calls Tryz.prog 107 #[.pointer (some ⟨G, 0, none⟩), .int .i64 kind] w fun e w' => NdAns 1 e w' ∧ GenAt R G B w' ns fs c sz (p + 1) ∧ Gk B w w' := by
 have HG := hid h
 obtain ⟨vn, vf, h1, h2, h3⟩ := h.ex
 have c0 := cell_hp h1 0
 have c1 := cell_hp h1 1
 simp at c0 c1
 obtain ⟨an, cn, rfl⟩ := own_sl h2
 have HO := hid h2
 clear h1 h2 h3 h
 go_enter Tryz.func107, Tryz.ntmps107
 go_wp2_with fail
 refine (pick_any R p _ _ (by omega) (by omega) HG.out.rd).mono ?_
 rintro e w1 ⟨⟨x, rfl, hx⟩, hr1, hs1⟩
 obtain ⟨hg1, hk1⟩ := HG.out.picked hr1 hs1
 have HG1 := hid hg1
 have HK1 := hid hk1
 have HXB := hid hx
 clear hr1 hs1 hg1 hk1 hx
 go_wp2
 go_loopw [8] (fun a wr => ∃ i : Nat, i ≤ ns.length ∧ a = .int .i64 i ∧ Below w1.heap.size w1 wr) (fun a _ => ns.length - (intOf a).toNat)
 case atStart => exact ⟨0, Nat.zero_le _, rfl, Below.refl _ _⟩
 case round =>
  obtain ⟨i, hi, rfl, hb⟩ := hrel
  have HB := hid hb
  have HGR := hid (HG1.out.next hb)
  clear hb
  by_cases hlt : i < ns.length
  ·obtain ⟨un, uf, g1, g2, g3⟩ := HGR.out.ex
   have hlen : ns.length ≠ 0 := by omega
   have hxn : x < ns.length := by have := HXB.out; omega
   obtain ⟨gn, cap, cur, rfl, hcur, hgn, htk⟩ : ∃ gn cap cur, un = .slice (some ⟨gn, 0, none⟩) ns.length cap ∧ ns.length ≤ cap ∧ wr.heap[gn]? = some (.cells cur 130 (0, 0)) ∧ cur.toList.take (ns.length * 2) = seenRow ns := by
    rcases g2.2 with ⟨_, hz⟩ | ⟨gn, cap, cur, hv, _, hg, hc, _, _, ht⟩
    ·omega
    ·exact ⟨gn, cap, cur, hv, hc, hg, ht⟩
   obtain ⟨q, hq⟩ : ∃ q, (x + i) % ns.length = q := ⟨_, rfl⟩
   have hqn : q < ns.length := by rw [← hq]; exact Nat.mod_lt _ (by omega)
   have hrem : ((x : Int) + i).tmod ns.length = (q : Int) := by
    rw [Int.tmod_eq_emod_of_nonneg (by omega), ← hq, Int.natCast_emod, Int.natCast_add]
   have hseen := seenRow_get ns q hqn
   have hcell : ∀ j u, (seenRow ns)[j]? = some u → wr.cell? ⟨gn, j, none⟩ = some u := fun j u hu => by
    rw [← htk] at hu
    have hj := (List.getElem?_eq_some_iff.1 hu).1
    rw [List.length_take] at hj
    rw [List.getElem?_take_of_lt (by omega)] at hu
    unfold World.cell?
    rw [hgn]
    simpa using hu
   have k0 := hcell _ _ hseen.1
   have k1 := hcell _ _ hseen.2
   have d1 := cell_hp g1 1
   simp at d1
   have hw : IntKind.i64.wrap ((x : Int) + i) = (x : Int) + i := by rw [IntKind.wrap_i64]; omega
   have hGl := (Array.getElem?_eq_some_iff.1 g1).1
   have hgl := (Array.getElem?_eq_some_iff.1 hgn).1
   have HAL := (Below.refl wr.heap.size wr).alloc (Nat.le_refl _) (.cells #[.string ⟨#[]⟩, .int .i64 0] 130)
   have a1 : (wr.alloc (.cells #[.string ⟨#[]⟩, .int .i64 0] 130)).drew.cell? ⟨G, 1, none⟩ = _ := (HAL.cell (p := ⟨G, 1, none⟩) hGl).trans d1
   have a2 : (wr.alloc (.cells #[.string ⟨#[]⟩, .int .i64 0] 130)).drew.cell? ⟨gn, q * 2, none⟩ = _ := (HAL.cell (p := ⟨gn, q * 2, none⟩) hgl).trans k0
   have a3 : (wr.alloc (.cells #[.string ⟨#[]⟩, .int .i64 0] 130)).drew.cell? ⟨gn, q * 2 + 1, none⟩ = _ := (HAL.cell (p := ⟨gn, q * 2 + 1, none⟩) hgl).trans k1
   have HALH := hid HAL
   obtain ⟨nm, hnm⟩ : ∃ nm, ns[q].1 = nm := ⟨_, rfl⟩
   obtain ⟨kd, hkd⟩ : ∃ kd, ns[q].2 = kd := ⟨_, rfl⟩
   have HNM : Hid (nm.size ≤ 100) := by show _ ≤ _; rw [← hnm]; exact HG.out.nok _ (List.getElem_mem hqn)
   rw [hnm] at k0 a2
   rw [hkd] at k1 a3
   clear hcell hseen htk hgn g1 g2 g3 hq HAL hnm hkd
   go_wp2_with fail
   go_region
   have HBX : Hid (Below w1.heap.size w1 (wr.alloc (.cells #[.string nm, .int .i64 kd] 130)).drew) := (HB.out.alloc HB.out.size _).drew
   by_cases hkk : kd = kind
   ·have hkb : (kd == kind) = true := by simpa using hkk
    clear hkk
    go_wp2_with fail
    refine (nameNode_any nm _).mono ?_
    rintro e w2 ⟨v, rfl, h1, h2⟩
    have H1 := hid h1
    have H2 := hid (HBX.out.trans (h2.mono HBX.out.size))
    obtain ⟨g3, c3, rfl⟩ : ∃ g c, v = .slice (some ⟨g, 0, none⟩) 1 c := by obtain ⟨_, g, c, _, e, _⟩ := h1; exact ⟨g, _, e⟩
    clear h1 h2
    go_wp2
    refine bodyPost_ret (v := .tuple #[.slice (some ⟨g3, 0, none⟩) 1 c3, .bool true]) (by simp [results, Tryz.results107, go_sem]) rfl ⟨.inl ⟨_, _, rfl, H1.out, by simp, fun y hy => ?_⟩, HG1.out.next H2.out, HK1.out.trans (Gk.of_below H2.out HG1.out.bw)⟩
    rw [List.mem_singleton] at hy
    subst hy
    have := HNM.out
    show nm.size ≤ 1000
    omega
   ·have hkb : (kd == kind) = false := by simpa using hkk
    go_wp2
    go_roundw
    case rel => exact ⟨i + 1, by omega, by go_num, HBX.out⟩
    case measure => simp [intOf]; omega
  ·obtain rfl : i = ns.length := by omega
   go_wp2
   refine bodyPost_ret (v := .tuple #[.slice (some ⟨wr.heap.size, 0, none⟩) 0 0, .bool false]) (by simp [results, Tryz.results107, go_sem]) rfl ⟨.inr ⟨_, _, rfl⟩, HG1.out.next (HB.out.alloc HB.out.size _), HK1.out.trans (Gk.of_below (HB.out.alloc HB.out.size _) HG1.out.bw)⟩
theorem GenAt.g0 {R G B : Nat} {w : World} {ns : List (ByteArray × Int)} {fs : List Fn} {c : Nat} {sz : Int} {p : Nat} (h : GenAt R G B w ns fs c sz p) : w.cell? ⟨G, 0, none⟩ = some (.pointer (some ⟨R, 0, none⟩)) := by
 obtain ⟨vn, vf, h1, _⟩ := h.ex
 have := cell_hp h1 0
 simpa using this
def LeafEnd (R G B K c' : Nat) (w : World) (ns : List (ByteArray × Int)) (fs : List Fn) (c : Nat) (sz : Int) (p : Nat) (e : Ending) (w' : World) : Prop :=
 (∃ v l, e = .returned v ∧ NdIn w' v l ∧ NdOk K l) ∧ (∃ p', p ≤ p' ∧ p' ≤ p + c' ∧ GenAt R G B w' ns fs c sz p') ∧ Gk B w w'
end Go.Proofs.YtbakebdfmdepnaaGreatDoor
