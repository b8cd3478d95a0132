import Derived.OwnWalk
import Derived.Test.YteeiblhjjeognaaGreatDoorJ19
/-! A row of shapes in a block of one's own. -/
namespace Go.Proofs.YteeiblhjjeognaaGreatDoor.C
open Go.RowKit
set_option maxRecDepth 20000
def ShRow (W : World) (g n : Nat) (A : Nat → Sh) : Prop := ∃ cur : Array Value, W.heap[g]? = some (.cells cur 43 (0, 0)) ∧ cur.size = n * 3 ∧ ∀ i, i < n → ∃ a b, cur[i * 3]? = some (.int .i64 ((A i).st : Nat)) ∧ cur[i * 3 + 1]? = some a ∧ cur[i * 3 + 2]? = some b ∧ IntRow W a (A i).sl ∧ IntRow W b (A i).sk
theorem ShRow.lt {W : World} {g n : Nat} {A : Nat → Sh} (h : ShRow W g n A) : g < W.heap.size := by
  obtain ⟨cur, e, _⟩ := h
  exact lt_hp e
theorem ShRow.keep {W V : World} {g n : Nat} {A : Nat → Sh} (h : ShRow W g n A) (hg : V.heap[g]? = W.heap[g]?) (hk : ∀ (k : Nat) (cur : Array Value), W.heap[k]? = some (.cells cur 3 (0, 0)) → V.heap[k]? = W.heap[k]?) : ShRow V g n A := by
  obtain ⟨cur, e, hz, h1⟩ := h
  refine ⟨cur, hg.trans e, hz, fun i hi => ?_⟩
  obtain ⟨a, b, e0, e1, e2, r1, r2⟩ := h1 i hi
  exact ⟨a, b, e0, e1, e2, r1.keep hk, r2.keep hk⟩
theorem ShRow.next {W V : World} {g n : Nat} {A : Nat → Sh} (h : ShRow W g n A) (hb : Below W.heap.size W V) : ShRow V g n A := h.keep (hb.block g h.lt) fun k _ hk => hb.block k (lt_hp hk)
theorem ShRow.at {W : World} {g n : Nat} {A : Nat → Sh} (h : ShRow W g n A) {i : Nat} (hi : i < n) : ∃ a1 c1 a2 c2, W.cell? ⟨g, i * 3, none⟩ = some (.int .i64 ((A i).st : Nat)) ∧ W.cell? ⟨g, i * 3 + 1, none⟩ = some (.slice a1 (A i).sl.length c1) ∧ W.cell? ⟨g, i * 3 + 2, none⟩ = some (.slice a2 (A i).sk.length c2) ∧ IntRow W (.slice a1 (A i).sl.length c1) (A i).sl ∧ IntRow W (.slice a2 (A i).sk.length c2) (A i).sk ∧ W.frozen? ⟨g, i * 3, none⟩ = false ∧ W.frozen? ⟨g, i * 3 + 1, none⟩ = false ∧ W.frozen? ⟨g, i * 3 + 2, none⟩ = false := by
  obtain ⟨cur, e, hz, h1⟩ := h
  obtain ⟨a, b, e0, e1, e2, r1, r2⟩ := h1 i hi
  obtain ⟨a1, c1, rfl⟩ := r1.sl
  obtain ⟨a2, c2, rfl⟩ := r2.sl
  exact ⟨a1, c1, a2, c2, (cell_hp e _).trans e0, (cell_hp e _).trans e1, (cell_hp e _).trans e2, r1, r2, frozen_hp e _, frozen_hp e _, frozen_hp e _⟩
theorem set_cells {W : World} {g : Nat} {cur : Array Value} {t : TypeId} (h : W.heap[g]? = some (.cells cur t (0, 0))) (j : Nat) (v : Value) : (W.setCell ⟨g, j, none⟩ v).heap[g]? = some (.cells (cur.setIfInBounds j v) t (0, 0)) := by
  unfold World.setCell
  simp only [Array.getElem?_modify, h]
  simp
/-- One place is written. -/
theorem ShRow.set {W : World} {g n : Nat} {A : Nat → Sh} (h : ShRow W g n A) {i : Nat} (hi : i < n) {s : Sh} {a b : Value} (ha : IntRow W a s.sl) (hb : IntRow W b s.sk) : ShRow (((W.setCell ⟨g, i * 3, none⟩ (.int .i64 (s.st : Nat))).setCell ⟨g, i * 3 + 1, none⟩ a).setCell ⟨g, i * 3 + 2, none⟩ b) g n (upd A i s) := by
  obtain ⟨cur, e, hz, h1⟩ := h
  have hk : ∀ (k : Nat) (cu : Array Value), W.heap[k]? = some (.cells cu 3 (0, 0)) → (((W.setCell ⟨g, i * 3, none⟩ (.int .i64 (s.st : Nat))).setCell ⟨g, i * 3 + 1, none⟩ a).setCell ⟨g, i * 3 + 2, none⟩ b).heap[k]? = W.heap[k]? := fun k cu hk => by
    have hne : ¬ k = g := fun ek => by subst ek; rw [e] at hk; simp at hk
    rw [set_other _ _ _ _ _ hne, set_other _ _ _ _ _ hne, set_other _ _ _ _ _ hne]
  refine ⟨_, set_cells (set_cells (set_cells e _ _) _ _) _ _, by simp [hz], fun q hq => ?_⟩
  by_cases hqi : q = i
  · subst hqi
    rw [upd_at]
    refine ⟨a, b, ?_, ?_, ?_, ha.keep hk, hb.keep hk⟩
    · rw [Array.getElem?_setIfInBounds_ne (by omega), Array.getElem?_setIfInBounds_ne (by omega), Array.getElem?_setIfInBounds_self_of_lt (by omega)]
    · rw [Array.getElem?_setIfInBounds_ne (by omega), Array.getElem?_setIfInBounds_self_of_lt (by simp; omega)]
    · rw [Array.getElem?_setIfInBounds_self_of_lt (by simp; omega)]
  · rw [upd_ne _ _ hqi]
    obtain ⟨x, y, e0, e1, e2, r1, r2⟩ := h1 q hq
    refine ⟨x, y, ?_, ?_, ?_, r1.keep hk, r2.keep hk⟩
    · rw [Array.getElem?_setIfInBounds_ne (by omega), Array.getElem?_setIfInBounds_ne (by omega), Array.getElem?_setIfInBounds_ne (by omega)]; exact e0
    · rw [Array.getElem?_setIfInBounds_ne (by omega), Array.getElem?_setIfInBounds_ne (by omega), Array.getElem?_setIfInBounds_ne (by omega)]; exact e1
    · rw [Array.getElem?_setIfInBounds_ne (by omega), Array.getElem?_setIfInBounds_ne (by omega), Array.getElem?_setIfInBounds_ne (by omega)]; exact e2
/-- What is written into a block of shapes is seen nowhere else. -/
theorem set3_other {W : World} {g k : Nat} (h : ¬ k = g) (x y z : Nat) (a b c : Value) : (((W.setCell ⟨g, x, none⟩ a).setCell ⟨g, y, none⟩ b).setCell ⟨g, z, none⟩ c).heap[k]? = W.heap[k]? := by
  rw [set_other _ _ _ _ _ h, set_other _ _ _ _ _ h, set_other _ _ _ _ _ h]
theorem made3 (a b c : Value) : ∀ (n i : Nat), i < n → (madeCells #[a, b, c] (n * 3))[i * 3]? = some a ∧ (madeCells #[a, b, c] (n * 3))[i * 3 + 1]? = some b ∧ (madeCells #[a, b, c] (n * 3))[i * 3 + 2]? = some c := by
  intro n i hi
  have key : ∀ k, k < n * 3 → (madeCells #[a, b, c] (n * 3))[k]? = some ((#[a, b, c] : Array Value)[k % 3]!) := fun k hk => by
    unfold madeCells
    simp [hk]
  refine ⟨?_, ?_, ?_⟩
  · rw [key _ (by omega), show i * 3 % 3 = 0 by omega]; rfl
  · rw [key _ (by omega), show (i * 3 + 1) % 3 = 1 by omega]; rfl
  · rw [key _ (by omega), show (i * 3 + 2) % 3 = 2 by omega]; rfl
/-- Made anew: nothing is known of any place. -/
theorem ShRow.made {W : World} {B g n : Nat} (h : W.ownsRow B 43 3 (.slice (some ⟨g, 0, none⟩) n n) n (madeCells #[.int .i64 0, .slice none 0 0, .slice none 0 0] (n * 3)).toList) : ShRow W g n fun _ => bot := by
  obtain ⟨h1, ⟨h2, _⟩ | ⟨k, c, cur, e, hb, h4, h5, h6, h7, h8⟩⟩ := h
  · cases h2
  · injection e with e1 _ e3
    injection e1 with e1
    injection e1 with e1
    subst e1 e3
    have hcur : cur.size = n * 3 := by rw [h7]
    have hcells : cur.toList = (madeCells #[.int .i64 0, .slice none 0 0, .slice none 0 0] (n * 3)).toList := by
      rw [← h8, List.take_of_length_le (by simp [hcur])]
    have hcc : cur = madeCells #[.int .i64 0, .slice none 0 0, .slice none 0 0] (n * 3) := by
      apply Array.ext'
      exact hcells
    refine ⟨cur, h4, hcur, fun i hi => ?_⟩
    obtain ⟨m0, m1, m2⟩ := made3 (.int .i64 0) (.slice none 0 0) (.slice none 0 0) n i hi
    rw [hcc]
    exact ⟨_, _, m0, m1, m2, IntRow.nil _, IntRow.nil _⟩
end Go.Proofs.YteeiblhjjeognaaGreatDoor.C
/-! What an instruction takes, in the program. -/
namespace Go.Proofs.YteeiblhjjeognaaGreatDoor.C
open Go.RowKit
set_option maxRecDepth 20000
def tkB (fns : List Fn) (f : Fn) (i : In) (at_ : Nat) (k : Int) : Bool :=
  if i.op = 8 then fitK ((sig i.a).1.getD at_ 0) k else if i.op = 9 then decide ((fns.getD i.a.toNat fn0).params.getD at_ 0 = k) else if i.op = 12 then decide (f.result = k) else decide ((takesT i.op.toNat).getD at_ 0 = -2) || fitK ((takesT i.op.toNat).getD at_ 0) k
set_option maxHeartbeats 2000000 in
theorem takes_any {fns : List Fn} {f : Fn} {b : Nat} {cv pv iv xv wv : Value} {w : World} (hM : MS fns f b cv pv iv xv wv w) (hE : EnvI w) {i : In} (hi : InsR fns f i) {z : Nat} {k : Int} (hz : z < takesN fns i) :
    Calls Tryz.prog 108 #[.pointer (some ⟨b, 0, none⟩), inV i, .int .i64 z, .int .i64 k] w fun e w' => e = .returned (.bool (tkB fns f i z k)) ∧ Below w.heap.size w w' := by
  have HLO : Hid (Below w.heap.size w (w.alloc (ibox i))) := hid ((Below.refl _ _).alloc (Nat.le_refl _) _)
  have HM := hid (hM.next HLO.out)
  have HE := hid (hE.next HLO.out)
  have HI := hid hi
  have HZ := hid hz
  obtain ⟨j0, j1, j2, j3⟩ := ix (ibox_new w i)
  obtain ⟨m0, m1, m2, m3, m4, m5, m6, m7⟩ := mx HM.out
  obtain ⟨op, a, n, tx⟩ := i
  have hop := hi.op
  dsimp only at hop j0 j1 j2 j3
  clear hM hE hi hz
  unfold inV
  dsimp only
  go_enter Tryz.func108, Tryz.ntmps108
  go_upto_region 1 with fail
  obtain ⟨W1, hW1⟩ : ∃ W, w.alloc (ibox ⟨op, a, n, tx⟩) = W := ⟨_, rfl⟩
  rw [hW1] at HLO HM HE j0 j1 j2 j3 m0 m1 m2 m3 m4 m5 m6 m7
  unfold ibox at hW1
  rw [hW1]
  clear hW1
  by_cases h8 : op = 8
  · subst h8
    have hb := HI.out.built rfl
    dsimp only at hb
    obtain ⟨q, rfl⟩ : ∃ q : Nat, a = q := ⟨a.toNat, by omega⟩
    have hz9 : z < (sig q).1.length := by have := HZ.out; simpa [takesN] using this
    have HV : Hid (tkB fns f ⟨8, (q : Int), n, tx⟩ z k = fitK ((sig q).1.getD z 0) k) := hid (by simp [tkB])
    obtain ⟨v, s0, s1, s2⟩ := HE.out.signs q (by omega) (by omega)
    obtain ⟨ka, c, rfl, hc⟩ := s2.at hz9
    have hki : (q : Int) < 13 := by omega
    have hkn : q < 13 := by omega
    have hzi : (z : Int) < ((sig q).1.length : Int) := by omega
    obtain ⟨y, hy⟩ : ∃ y, (sig q).1.getD z 0 = y := ⟨_, rfl⟩
    rw [hy] at hc HV
    obtain ⟨L, hL⟩ : ∃ L, (sig (q : Int)).1.length = L := ⟨_, rfl⟩
    rw [hL] at s0 hz9 hzi
    clear hb s2 hy hL
    go_wp2_with (go_at_call 126; refine (kindFits_any _ _ _).mono ?_; rintro e w' ⟨rfl, hw⟩; have hw2 := hw.symm; clear hw; subst hw2)
    go_ret
    exact ⟨ret_bool (by rw [HV.out]), HLO.out⟩
  · have e8 : (op == 8) = false := by simpa using h8
    by_cases h9 : op = 9
    · subst h9
      have hb := HI.out.call rfl
      dsimp only at hb
      obtain ⟨q, rfl⟩ : ∃ q : Nat, a = q := ⟨a.toNat, by omega⟩
      have hk : q < fns.length := by omega
      have hz9 : z < (fns.getD q fn0).params.length := by have := HZ.out; simpa [takesN] using this
      have HV : Hid (tkB fns f ⟨9, (q : Int), n, tx⟩ z k = decide ((fns.getD q fn0).params.getD z 0 = k)) := hid (by simp [tkB])
      obtain ⟨gF, cF2, hcv, hgF, pv2, iv2, n0, n1, n2, n3, n4, hpv, _⟩ := HM.out.fr.at hk
      obtain ⟨gP, cP, rfl, _, _, _, hcP⟩ := hpv.at hz9
      have kP := hcP z hz9
      rw [hcv] at m0
      have hki : (q : Int) < (fns.length : Int) := by omega
      obtain ⟨y, hy⟩ : ∃ y, (fns.getD q fn0).params.getD z 0 = y := ⟨_, rfl⟩
      rw [hy] at kP HV
      obtain ⟨L, hL⟩ : ∃ L, (fns.getD q fn0).params.length = L := ⟨_, rfl⟩
      rw [hL] at n1 hz9
      have hzi : (z : Int) < (L : Int) := by omega
      clear hb hpv hL hy n0 n2 n3 n4 h8 hcv hcP
      go_wp2_with fail
      go_quiet (fail)
      go_wp2
      go_ret
      exact ⟨ret_bool (by rw [HV.out]; rfl), below_drewN HLO.out _⟩
    · have e9 : (op == 9) = false := by simpa using h9
      by_cases h12 : op = 12
      · subst h12
        have HV : Hid (tkB fns f ⟨12, a, n, tx⟩ z k = decide (f.result = k)) := hid (by simp [tkB])
        clear h8 h9
        go_wp2_with fail
        go_ret
        exact ⟨ret_bool (by rw [HV.out]; rfl), HLO.out⟩
      · have e12 : (op == 12) = false := by simpa using h12
        obtain ⟨o, rfl⟩ : ∃ o : Nat, op = o := ⟨op.toNat, by omega⟩
        have ho1 : 1 ≤ o := by omega
        have ho2 : o ≤ 16 := by omega
        have hz9 : z < (takesT o).length := by have := HZ.out; rw [takesN_T (o := o) rfl (by omega) (by omega) (by omega) ho1 ho2] at this; exact this
        have HV : Hid (tkB fns f ⟨(o : Int), a, n, tx⟩ z k = (decide ((takesT o).getD z 0 = -2) || fitK ((takesT o).getD z 0) k)) := hid (by simp [tkB, h8, h9, h12])
        obtain ⟨v, s0, s1, s2, s3⟩ := HE.out.rows o ho1 ho2
        obtain ⟨ka, c, rfl, hc⟩ := s3.at hz9
        have hoi : (o : Int) < 17 := by omega
        have hon : o < 17 := by omega
        have hzi : (z : Int) < ((takesT o).length : Int) := by omega
        obtain ⟨y, hy⟩ : ∃ y, (takesT o).getD z 0 = y := ⟨_, rfl⟩
        rw [hy] at hc HV
        obtain ⟨L, hL⟩ : ∃ L, (takesT o).length = L := ⟨_, rfl⟩
        rw [hL] at s1 hz9 hzi
        clear h8 h9 h12 s0 s2 s3 hy hL
        by_cases hy2 : y = -2
        · subst hy2
          go_wp2_with fail
          go_ret
          exact ⟨ret_bool (by rw [HV.out]; rfl), HLO.out⟩
        · have hyf : (y == -2) = false := by simpa using hy2
          have HV2 : Hid ((decide (y = -2) || fitK y k) = fitK y k) := hid (by simp [hy2])
          clear hy2
          go_wp2_with (go_at_call 126; refine (kindFits_any _ _ _).mono ?_; rintro e w' ⟨rfl, hw⟩; have hw2 := hw.symm; clear hw; subst hw2)
          go_ret
          exact ⟨ret_bool (by rw [HV.out, HV2.out]), HLO.out⟩
end Go.Proofs.YteeiblhjjeognaaGreatDoor.C
