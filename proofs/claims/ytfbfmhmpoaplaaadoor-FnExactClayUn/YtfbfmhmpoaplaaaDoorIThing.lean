import Derived.Test.YtfbfmhmpoaplaaaDoorIOverR
import Derived.Test.YtfbfmhmpoaplaaaDoorIClone
namespace Go.Proofs.YtfbfmhmpoaplaaaDoor
open Go.RowKit
set_option maxRecDepth 20000
theorem over_any (S : Nat → Prop) (k n : Int) (t : ByteArray) (ad : Option Addr) (N cap : Nat) (ks : List Tr) (xs : List Value) (w : World) (hS : ∀ g, w.heap.size ≤ g → S g) (h1 : One w) (hN : ks.length = N) (hN1 : N ≤ 1000) (hcap : N ≤ cap) (hc2 : cap ≤ 9223372036854775807) (hr : RowIn S w ad xs) (hk : IsThs S w ks xs) (hg : ∀ x ∈ ks, Good x) (ht : t.size ≤ maxLen) :
    Calls Tryd.prog 36 #[.agg #[.int .i64 k, .int .i64 n, .string t, .int .i64 N], .slice ad N cap] w fun e w' => Below w.heap.size w w' ∧ OverEnd S w' e (.node k n t ks) := by
  by_cases ho : k < 1 ∨ 6 < k
  · exact over_other S k n t ad N cap ks w ho
  · have hkk : k = 1 ∨ k = 2 ∨ k = 3 ∨ k = 4 ∨ k = 5 ∨ k = 6 := by omega
    rcases hkk with rfl | rfl | rfl | rfl | rfl | rfl
    · exact over_none S n t ad N cap ks w hN ht
    · exact over_bool S n t ad N cap ks w hN ht
    · exact over_int S n t ad N cap ks w hN ht
    · by_cases hs : t.size ≤ 1000
      · exact over_text_s S n t ad N cap ks w hs hN ht
      · exact over_text_l S n t ad N cap ks w hs ht
    · exact over_list S n t ad N cap ks xs w h1 hN hN1 hr hk hg
    · exact over_rec S n t ad N cap ks xs w hS h1 hN hN1 hcap hc2 hr hk hg
/-- What the loop of clayThingOf holds behind j atoms. -/
structure TInv (l : List At) (B : Nat) (W0 W : World) (j : Nat) (s : List Tr) (vo : Value) (ys : List Value) : Prop where
  st : stk [] (l.take j) = some s
  good : ∀ x ∈ s, Good x
  own : W.ownsRow B 43 1 vo s.length ys
  ths : IsThs (fun b => B ≤ b ∧ vo.ownBlock ≠ some b) W s ys
  below : Below B W0 W
theorem TInv.len {l : List At} {B : Nat} {W0 W : World} {j : Nat} {s : List Tr} {vo : Value} {ys : List Value} (h : TInv l B W0 W j s vo ys) (hj : j ≤ l.length) : s.length ≤ j ∧ ys.length = s.length := by
  have h1 := stk_sound h.st
  simp only [flats, List.nil_append] at h1
  have h2 : (flats s).length = j := by rw [h1, List.length_take]; omega
  exact ⟨by have := flats_len_ge s; omega, isThs_length h.ths⟩
theorem TInv_step {l : List At} {B : Nat} {W0 W w2 w3 : World} {j p : Nat} {sp sk : List Tr} {yp yk : List Value} {x : At} {vo vp v v3 : Value} {X : Obj} (h : TInv l B W0 W j (sp ++ sk) vo (yp ++ yk)) (hyp : yp.length = sp.length) (hx : l[j]? = some x) (hk : x.kids = sk.length) (hB : B ≤ W.heap.size) (hp : sp.length = p)
    (hb2 : Below W.heap.size W w2) (hth : IsTh (fun b => B ≤ b ∧ vo.ownBlock ≠ some b) w2 (.node x.kind x.n x.text sk) v) (hgd : Good (.node x.kind x.n x.text sk))
    (hvp : vp.ownBlock = vo.ownBlock) (o3 : w3.ownsRow B 43 1 v3 (p + 1) (yp ++ [v])) (g3 : (w2.alloc X).grownBy w3 vp.ownBlock) (b3 : v3.ownBlock = vp.ownBlock ∨ v3.ownBlock = some (w2.alloc X).heap.size) :
    TInv l B W0 w3 (j + 1) (sp ++ [.node x.kind x.n x.text sk]) v3 (yp ++ [v]) := by
  have hl := (List.getElem?_eq_some_iff.1 hx).1
  have hz2 : B ≤ w2.heap.size := Nat.le_trans hB hb2.size
  have hoB : ∀ q, vo.ownBlock = some q → B ≤ q ∧ q < W.heap.size := fun q hq => h.own.lt q hq
  have hkeep : ∀ g, (B ≤ g ∧ vo.ownBlock ≠ some g) → g < w2.heap.size → w3.heap[g]? = w2.heap[g]? := fun g hg hlt =>
    (g3.block g (by simp; omega) (by rw [hvp]; exact fun e => hg.2 e.symm)).trans (Below.heap_alloc w2 X g hlt)
  have hsz : w2.heap.size ≤ w3.heap.size := Nat.le_trans (by simp) g3.size
  have hS : ∀ g, (B ≤ g ∧ vo.ownBlock ≠ some g) → g < w2.heap.size → (B ≤ g ∧ v3.ownBlock ≠ some g) := fun g hg hlt => ⟨hg.1, fun e => by
    rcases b3 with b3 | b3
    · rw [b3, hvp] at e; exact hg.2 e
    · rw [b3, World.size_alloc] at e
      injection e with e
      omega⟩
  obtain ⟨ya, yb, hyy, ht1, ht2⟩ := isThs_split h.ths
  have hya : ya = yp := by
    have h1 := isThs_length ht1
    have := congrArg (List.take sp.length) hyy
    rw [List.take_left' hyp, List.take_left' h1] at this
    exact this.symm
  subst hya
  refine ⟨?_, ?_, ?_, ?_, ?_⟩
  · rw [List.take_succ_eq_append_getElem hl, (List.getElem?_eq_some_iff.1 hx).2, stk_snoc _ _ _ _ h.st]
    exact push_good sp sk x hk
  · intro y hy
    rcases List.mem_append.1 hy with hy | hy
    · exact h.good y (by simp [hy])
    · rw [List.mem_singleton] at hy; rw [hy]; exact hgd
  · rw [List.length_append, hp]; exact o3
  · refine isThs_append (isThs_keep hkeep hsz hS (isThs_below ht1 hb2)) ⟨v, [], rfl, ?_, rfl⟩
    exact isTh_keep hkeep hsz hS _ v hth
  · refine ((h.below.trans (hb2.mono hB)).alloc hz2 X).grown g3 (by simp; omega) (fun q e => ?_)
    rw [hvp] at e
    exact (hoB q e).1
/-- What clayThingOf hands back. -/
def ThingEnd (l : List At) (w w' : World) (e : Ending) : Prop :=
  Below w.heap.size w w' ∧ ((∃ t v, l = flat t ∧ Good t ∧ e = .returned (.tuple #[v, .bool true]) ∧ IsTh (fun b => w.heap.size ≤ b) w' t v) ∨ (¬ ValidV l ∧ ∃ v, e = .returned (.tuple #[v, .bool false])))
end Go.Proofs.YtfbfmhmpoaplaaaDoor
