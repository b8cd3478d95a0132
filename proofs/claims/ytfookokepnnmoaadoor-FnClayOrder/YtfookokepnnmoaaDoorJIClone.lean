import Derived.Lib.SliceRun
import Derived.Test.YtfookokepnnmoaaDoorJQuiet
import Derived.Test.YtfookokepnnmoaaDoorJIOverR
namespace Go.Proofs.YtfookokepnnmoaaDoor
open Go.RowKit
set_option maxRecDepth 20000
theorem info_th : (Tryd.prog.info? 45).map (fun i => (i.zero, i.size, i.bytes)) = some (some .nilIface, 1, 16) := by kernel_rfl
theorem th_one {S : Nat → Prop} {W : World} {ts : List Tr} {xs : List Value} (h : IsThs S W ts xs) : ∀ u ∈ xs, u.oneCell' = true := by
  induction ts generalizing xs with
  | nil => simp [IsThs] at h; subst h; simp
  | cons t ts ih =>
    obtain ⟨v, vs, rfl, h1, h2⟩ := h
    intro u hu
    rcases List.mem_cons.1 hu with rfl | hu
    · obtain ⟨k, n, tx, ks⟩ := t
      simp only [IsTh] at h1
      rcases h1 with ⟨_, rfl⟩ | ⟨_, rfl⟩ | ⟨_, rfl⟩ | ⟨_, rfl⟩ | ⟨_, ad, cap, ys, rfl, _⟩ | ⟨_, ad, m, cap, ys, rfl, _⟩ <;> rfl
    · exact ih h2 u hu
set_option maxHeartbeats 1000000 in
theorem clone_nil (c : Nat) (w : World) :
    Calls Tryd.prog 31 #[.slice none 0 c] w fun e w' => ∃ v, e = .returned v ∧ w'.ownsRow w.heap.size 45 1 v 0 [] ∧ Below w.heap.size w w' := by
  have qT : ∀ (w : World) (a : Option Addr) (n c n' c' : Nat), (binOp .eql 60 (.slice a n c) (.slice none n' c')).run Tryd.prog w = .ok (.bool a.isNone) w := fun w a n c n' c' => Lib.run_eql_slice_nil w _ _ a n c n' c' Tryd.underlying60
  go_enter Tryd.func31, Tryd.ntmps31
  go_wp2
  go_ret
  exact ⟨_, rfl, World.ownsRow_nil _ _ _ _, Below.refl _ _⟩
set_option maxHeartbeats 1000000 in
theorem clone_some (a : Addr) (k c : Nat) (xs : List Value) (w : World) (hk : xs.length = k) (hk1 : k ≤ 1000) (hc : ∀ i u, xs[i]? = some u → w.cell? (a.add i) = some u) (hab : 0 < k → a.block < w.heap.size) (h1 : ∀ u ∈ xs, u.oneCell' = true) :
    Calls Tryd.prog 31 #[.slice (some a) k c] w fun e w' => ∃ v, e = .returned v ∧ w'.ownsRow w.heap.size 45 1 v k xs ∧ Below w.heap.size w w' := by
  have qT : ∀ (w : World) (a : Option Addr) (n c n' c' : Nat), (binOp .eql 60 (.slice a n c) (.slice none n' c')).run Tryd.prog w = .ok (.bool a.isNone) w := fun w a n c n' c' => Lib.run_eql_slice_nil w _ _ a n c n' c' Tryd.underlying60
  obtain ⟨i0, hi, hz0, hz1, hz2⟩ := info_parts info_th
  have HHI := hid (And.intro hi (And.intro hz0 (And.intro hz1 hz2)))
  clear hi hz0 hz1 hz2
  have HC : Hid (∀ i u, xs[i]? = some u → (w.alloc (.cells #[] 45)).cell? (a.add i) = some u) := fun i u h => by
    have hl := (List.getElem?_eq_some_iff.1 h).1
    have hb : (a.add i).block < w.heap.size := by unfold Addr.add; split <;> exact hab (by omega)
    rw [((Below.refl w.heap.size w).alloc (Nat.le_refl _) (.cells #[] 45)).cell hb]
    exact hc i u h
  have H1 := hid h1
  have HK := hid hk
  have HB := hid ((Below.refl w.heap.size w).alloc (Nat.le_refl _) (.cells #[] 45))
  have OWN1 := hid (World.ownsRow_made (e := 45) (size := 1) w #[] 0 (Nat.le_refl _) (by unfold maxLen; omega) rfl)
  clear hc h1 hk hab
  go_enter Tryd.func31, Tryd.ntmps31
  go_wp2_with (at_builtin; refine wpList_append_own_at _ rfl (.tmp 5) (.tmp 6) 60 rfl w.heap.size 45 i0 .nilIface 1 16 Tryd.underlying60 HHI.out.1 HHI.out.2.1 HHI.out.2.2.1 HHI.out.2.2.2 rfl (by decide) _ _ _ rfl OWN1.out a k c xs rfl (by rw [HK.out, Nat.mul_one]) HC.out H1.out (by unfold maxLen; omega) (by omega) (by simp) ?_; intro v1 w1 o1 g1 nn1 b1; rw [Nat.zero_add, List.nil_append] at o1; have O1 := hid o1; have HB1 := hid (HB.out.grown g1 (by simp) (fun q e => by injection e with e; exact Nat.le_of_eq e)); clear o1 g1 nn1 b1)
  obtain ⟨av, cv, rfl⟩ : ∃ av cv, v1 = .slice av k cv := by
    obtain ⟨_, ⟨h2, h3⟩ | ⟨g, cap, cur, h2, _⟩⟩ := O1.out
    · exact ⟨none, 0, by rw [h2, h3]⟩
    · exact ⟨_, _, h2⟩
  go_wp2
  go_ret
  exact ⟨_, rfl, O1.out, HB1.out⟩
end Go.Proofs.YtfookokepnnmoaaDoor
namespace Go.Proofs.YtfookokepnnmoaaDoor
open Go.RowKit
set_option maxRecDepth 20000
theorem over_any (S : Nat → Prop) (k n : Int) (t : ByteArray) (ad : Option Addr) (N cap : Nat) (ks : List Tr) (xs : List Value) (w : World) (hS : ∀ g, w.heap.size ≤ g → S g) (h1 : One w) (hN : ks.length = N) (hN1 : N ≤ 1000) (hcap : N ≤ cap) (hc2 : cap ≤ 9223372036854775807) (hr : RowIn S w ad xs) (hk : IsThs S w ks xs) (hg : ∀ x ∈ ks, Good x) (ht : t.size ≤ maxLen) :
    Calls Tryd.prog 30 #[.agg #[.int .i64 k, .int .i64 n, .string t, .int .i64 N], .slice ad N cap] w fun e w' => Below w.heap.size w w' ∧ OverEnd S w' e (.node k n t ks) := by
  by_cases ho : k < 1 ∨ 6 < k
  · exact over_other S k n t ad N cap ks w ho
  · have hkk : k = 1 ∨ k = 2 ∨ k = 3 ∨ k = 4 ∨ k = 5 ∨ k = 6 := by omega
    rcases hkk with rfl | rfl | rfl | rfl | rfl | rfl
    · exact over_none S n t ad N cap ks w hN ht
    · exact over_bool S n t ad N cap ks w hN ht
    · exact over_int S n t ad N cap ks w hN ht
    · by_cases hs : t.size ≤ 1000
      · exact over_text_s S n t ad N cap ks w hs hN ht
      · exact over_text_l S n t ad N cap ks w hs ht
    · exact over_list S n t ad N cap ks xs w h1 hN hN1 hr hk hg
    · exact over_rec S n t ad N cap ks xs w hS h1 hN hN1 hcap hc2 hr hk hg
/-- What the loop of clayThingOf holds behind j atoms. -/
structure TInv (l : List At) (B : Nat) (W0 W : World) (j : Nat) (s : List Tr) (vo : Value) (ys : List Value) : Prop where
  st : stk [] (l.take j) = some s
  good : ∀ x ∈ s, Good x
  own : W.ownsRow B 45 1 vo s.length ys
  ths : IsThs (fun b => B ≤ b ∧ vo.ownBlock ≠ some b) W s ys
  below : Below B W0 W
theorem TInv.len {l : List At} {B : Nat} {W0 W : World} {j : Nat} {s : List Tr} {vo : Value} {ys : List Value} (h : TInv l B W0 W j s vo ys) (hj : j ≤ l.length) : s.length ≤ j ∧ ys.length = s.length := by
  have h1 := stk_sound h.st
  simp only [flats, List.nil_append] at h1
  have h2 : (flats s).length = j := by rw [h1, List.length_take]; omega
  exact ⟨by have := flats_len_ge s; omega, isThs_length h.ths⟩
theorem TInv_step {l : List At} {B : Nat} {W0 W w2 w3 : World} {j p : Nat} {sp sk : List Tr} {yp yk : List Value} {x : At} {vo vp v v3 : Value} {X : Obj} (h : TInv l B W0 W j (sp ++ sk) vo (yp ++ yk)) (hyp : yp.length = sp.length) (hx : l[j]? = some x) (hk : x.kids = sk.length) (hB : B ≤ W.heap.size) (hp : sp.length = p)
    (hb2 : Below W.heap.size W w2) (hth : IsTh (fun b => B ≤ b ∧ vo.ownBlock ≠ some b) w2 (.node x.kind x.n x.text sk) v) (hgd : Good (.node x.kind x.n x.text sk))
    (hvp : vp.ownBlock = vo.ownBlock) (o3 : w3.ownsRow B 45 1 v3 (p + 1) (yp ++ [v])) (g3 : (w2.alloc X).grownBy w3 vp.ownBlock) (b3 : v3.ownBlock = vp.ownBlock ∨ v3.ownBlock = some (w2.alloc X).heap.size) :
    TInv l B W0 w3 (j + 1) (sp ++ [.node x.kind x.n x.text sk]) v3 (yp ++ [v]) := by
  have hl := (List.getElem?_eq_some_iff.1 hx).1
  have hz2 : B ≤ w2.heap.size := Nat.le_trans hB hb2.size
  have hoB : ∀ q, vo.ownBlock = some q → B ≤ q ∧ q < W.heap.size := fun q hq => h.own.lt q hq
  have hkeep : ∀ g, (B ≤ g ∧ vo.ownBlock ≠ some g) → g < w2.heap.size → w3.heap[g]? = w2.heap[g]? := fun g hg hlt =>
    (g3.block g (by simp; omega) (by rw [hvp]; exact fun e => hg.2 e.symm)).trans (Below.heap_alloc w2 X g hlt)
  have hsz : w2.heap.size ≤ w3.heap.size := Nat.le_trans (by simp) g3.size
  have hS : ∀ g, (B ≤ g ∧ vo.ownBlock ≠ some g) → g < w2.heap.size → (B ≤ g ∧ v3.ownBlock ≠ some g) := fun g hg hlt => ⟨hg.1, fun e => by
    rcases b3 with b3 | b3
    · rw [b3, hvp] at e; exact hg.2 e
    · rw [b3, World.size_alloc] at e
      injection e with e
      omega⟩
  obtain ⟨ya, yb, hyy, ht1, ht2⟩ := isThs_split h.ths
  have hya : ya = yp := by
    have h1 := isThs_length ht1
    have := congrArg (List.take sp.length) hyy
    rw [List.take_left' hyp, List.take_left' h1] at this
    exact this.symm
  subst hya
  refine ⟨?_, ?_, ?_, ?_, ?_⟩
  · rw [List.take_succ_eq_append_getElem hl, (List.getElem?_eq_some_iff.1 hx).2, stk_snoc _ _ _ _ h.st]
    exact push_good sp sk x hk
  · intro y hy
    rcases List.mem_append.1 hy with hy | hy
    · exact h.good y (by simp [hy])
    · rw [List.mem_singleton] at hy; rw [hy]; exact hgd
  · rw [List.length_append, hp]; exact o3
  · refine isThs_append (isThs_keep hkeep hsz hS (isThs_below ht1 hb2)) ⟨v, [], rfl, ?_, rfl⟩
    exact isTh_keep hkeep hsz hS _ v hth
  · refine ((h.below.trans (hb2.mono hB)).alloc hz2 X).grown g3 (by simp; omega) (fun q e => ?_)
    rw [hvp] at e
    exact (hoB q e).1
/-- What clayThingOf hands back. -/
def ThingEnd (l : List At) (w w' : World) (e : Ending) : Prop :=
  Below w.heap.size w w' ∧ ((∃ t v, l = flat t ∧ Good t ∧ e = .returned (.tuple #[v, .bool true]) ∧ IsTh (fun b => w.heap.size ≤ b) w' t v) ∨ (¬ ValidV l ∧ ∃ v, e = .returned (.tuple #[v, .bool false])))
end Go.Proofs.YtfookokepnnmoaaDoor
