import Derived.Deep.RegionHeld3
import Derived.Test.YtabefhpgeaihgaaGreatDoorJ18
import Derived.Test.YtabefhpgeaihgaaGreatDoorJ16
/-! Rows of values: what the law does with them. -/
namespace Go.Proofs.YtabefhpgeaihgaaGreatDoor.V
open Go.RowKit Go.Shelf
set_option maxRecDepth 20000
structure Vl where
  t : Int
  n : Int
  s : ByteArray
abbrev vlV (x : Vl) : Value := val x.t x.n x.s
def ValA (W : World) (a : Addr) (x : Vl) : Prop := W.cell? a = some (.int .i64 x.t) ∧ W.cell? ⟨a.block, a.off + 1, none⟩ = some (.int .i64 x.n) ∧ W.cell? ⟨a.block, a.off + 2, none⟩ = some (.string x.s)
theorem vadd_block (a : Addr) (n : Nat) : (a.add n).block = a.block := by unfold Addr.add; split <;> rfl
/-- N values that came in. -/
def ValsA (W : World) (ad : Option Addr) (N : Nat) (vl : Nat → Vl) : Prop := N = 0 ∨ ∃ a, ad = some a ∧ a.block < W.heap.size ∧ ∀ i, i < N → ValA W (a.add (i * 3)) (vl i)
theorem ValsA.below {W W' : World} {ad : Option Addr} {N : Nat} {vl : Nat → Vl} (h : ValsA W ad N vl) (hb : Below W.heap.size W W') : ValsA W' ad N vl := by
  rcases h with h | ⟨a, rfl, h1, h2⟩
  · exact .inl h
  · refine .inr ⟨a, rfl, Nat.lt_of_lt_of_le h1 hb.size, fun i hi => ?_⟩
    have hk : ∀ p : Addr, p.block = a.block → W'.cell? p = W.cell? p := fun p hp => hb.cell (by rw [hp]; exact h1)
    obtain ⟨c0, c1, c2⟩ := h2 i hi
    exact ⟨(hk _ (vadd_block a _)).trans c0, (hk ⟨_, _, none⟩ (vadd_block a _)).trans c1, (hk ⟨_, _, none⟩ (vadd_block a _)).trans c2⟩
/-- A row of values of one's own. -/
def ValAt (W : World) (b i : Nat) (x : Vl) : Prop := W.cell? ⟨b, i * 3, none⟩ = some (.int .i64 x.t) ∧ W.cell? ⟨b, i * 3 + 1, none⟩ = some (.int .i64 x.n) ∧ W.cell? ⟨b, i * 3 + 2, none⟩ = some (.string x.s)
def ValsAt (W : World) (b N : Nat) (vl : Nat → Vl) : Prop := ∀ i, i < N → ValAt W b i (vl i)
theorem ValsAt.below {W W' : World} {B b N : Nat} {vl : Nat → Vl} (h : ValsAt W b N vl) (hb : Below B W W') (hB : b < B) : ValsAt W' b N vl := fun i hi => by
  obtain ⟨h0, h1, h2⟩ := h i hi
  exact ⟨(hb.cell (p := ⟨b, _, none⟩) hB).trans h0, (hb.cell (p := ⟨b, _, none⟩) hB).trans h1, (hb.cell (p := ⟨b, _, none⟩) hB).trans h2⟩
theorem info_vl : (Tryz.prog.info? 24).map (fun i => (i.zero, i.size, i.bytes)) = some (some (.agg #[.int .i64 0, .int .i64 0, .string ⟨#[]⟩]), 3, 32) := by kernel_rfl
def FillV (W : World) (g n j : Nat) (vl : Nat → Vl) : Prop := (∃ cur, W.heap[g]? = some (.cells cur 24 (0, 0)) ∧ cur.size = n * 3) ∧ ValsAt W g j vl
theorem three_room {W : World} {g j : Nat} {cur : Array Value} {t : TypeId} (h : W.heap[g]? = some (.cells cur t (0, 0))) (hj : j * 3 + 2 < cur.size) :
    (∃ v, W.cell? ⟨g, j * 3, none⟩ = some v) ∧ (∃ v, W.cell? ⟨g, j * 3 + 1, none⟩ = some v) ∧ (∃ v, W.cell? ⟨g, j * 3 + 2, none⟩ = some v) ∧
    W.frozen? ⟨g, j * 3, none⟩ = false ∧ W.frozen? ⟨g, j * 3 + 1, none⟩ = false ∧ W.frozen? ⟨g, j * 3 + 2, none⟩ = false := by
  have c : ∀ i, i < cur.size → ∃ v, W.cell? ⟨g, i, none⟩ = some v := fun i hi => ⟨cur[i], by unfold World.cell?; rw [h]; simp [hi]⟩
  have f : ∀ i, W.frozen? ⟨g, i, none⟩ = false := fun i => by unfold World.frozen?; rw [h]; simp
  exact ⟨c _ (by omega), c _ (by omega), c _ (by omega), f _, f _, f _⟩
theorem vset_at {W : World} {g i : Nat} {cur : Array Value} {t : TypeId} (v : Value) (h : W.heap[g]? = some (.cells cur t (0, 0))) : (W.setCell ⟨g, i, none⟩ v).heap[g]? = some (.cells (cur.setIfInBounds i v) t (0, 0)) := by
  unfold World.setCell
  simp only [Array.getElem?_modify, h]
  simp
theorem fillV_step {W : World} {g N j : Nat} {vl : Nat → Vl} {cur : Array Value} (h : W.heap[g]? = some (.cells cur 24 (0, 0)) ∧ cur.size = N * 3) (hno : ValsAt W g j vl) (hj : j < N) :
    FillV (((W.setCell ⟨g, j * 3, none⟩ (.int .i64 (vl j).t)).setCell ⟨g, j * 3 + 1, none⟩ (.int .i64 (vl j).n)).setCell ⟨g, j * 3 + 2, none⟩ (.string (vl j).s)) g N (j + 1) vl := by
  obtain ⟨h1, h2⟩ := h
  have e := vset_at (.string (vl j).s) (i := j * 3 + 2) (vset_at (.int .i64 (vl j).n) (i := j * 3 + 1) (vset_at (.int .i64 (vl j).t) (i := j * 3) h1))
  refine ⟨⟨_, e, by simp [h2]⟩, ?_⟩
  have c : ∀ i, World.cell? (((W.setCell ⟨g, j * 3, none⟩ (.int .i64 (vl j).t)).setCell ⟨g, j * 3 + 1, none⟩ (.int .i64 (vl j).n)).setCell ⟨g, j * 3 + 2, none⟩ (.string (vl j).s)) ⟨g, i, none⟩ = (((cur.setIfInBounds (j * 3) (.int .i64 (vl j).t)).setIfInBounds (j * 3 + 1) (.int .i64 (vl j).n)).setIfInBounds (j * 3 + 2) (.string (vl j).s))[i]? := fun i => by
    unfold World.cell?
    rw [e]; rfl
  have o : ∀ i, W.cell? ⟨g, i, none⟩ = cur[i]? := fun i => by
    unfold World.cell?
    rw [h1]; rfl
  have low : ∀ i, i < j * 3 → World.cell? (((W.setCell ⟨g, j * 3, none⟩ (.int .i64 (vl j).t)).setCell ⟨g, j * 3 + 1, none⟩ (.int .i64 (vl j).n)).setCell ⟨g, j * 3 + 2, none⟩ (.string (vl j).s)) ⟨g, i, none⟩ = W.cell? ⟨g, i, none⟩ := fun i hi => by
    rw [c, o, Array.getElem?_setIfInBounds_ne (by omega), Array.getElem?_setIfInBounds_ne (by omega), Array.getElem?_setIfInBounds_ne (by omega)]
  intro i hi
  rcases Nat.lt_or_eq_of_le (Nat.lt_succ_iff.1 hi) with h | h
  · obtain ⟨d0, d1, d2⟩ := hno i h
    exact ⟨(low _ (by omega)).trans d0, (low _ (by omega)).trans d1, (low _ (by omega)).trans d2⟩
  · subst h
    have hb : i * 3 + 2 < cur.size := by rw [h2]; omega
    refine ⟨?_, ?_, ?_⟩
    · rw [c, Array.getElem?_setIfInBounds_ne (by omega), Array.getElem?_setIfInBounds_ne (by omega), Array.getElem?_setIfInBounds_self_of_lt (by omega)]
    · rw [c, Array.getElem?_setIfInBounds_ne (by omega), Array.getElem?_setIfInBounds_self_of_lt (by simp; omega)]
    · rw [c, Array.getElem?_setIfInBounds_self_of_lt (by simp; omega)]
end Go.Proofs.YtabefhpgeaihgaaGreatDoor.V
