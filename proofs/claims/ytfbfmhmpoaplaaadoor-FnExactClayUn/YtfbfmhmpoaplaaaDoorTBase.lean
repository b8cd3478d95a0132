import Derived.Test.YtfbfmhmpoaplaaaDoorChecked
import Derived.Test.YtfbfmhmpoaplaaaDoorTPlain
import Derived.WalkKit
import Derived.WalkSpells
import Derived.WalkLawsBesides
import Derived.OwnWalk
import Derived.Deep.QuietTactic
import Derived.BigQuiet
import Derived.Lib.Bytealg
import Derived.Lib.Strings
import Derived.BigCall
namespace Go.Proofs.YtfbfmhmpoaplaaaDoor
open Go.RowKit
set_option maxRecDepth 20000

theorem ret_bool {a b : Bool} (h : a = b) : Ending.returned (.bool a) = .returned (.bool b) := by rw [h]
theorem ret_int {k : IntKind} {a b : Int} (h : a = b) : Ending.returned (.int k a) = .returned (.int k b) := by rw [h]
theorem byte_bd (c : UInt8) : 0 ≤ (c.toNat : Int) ∧ (c.toNat : Int) ≤ 255 := by have := c.toNat_lt; omega
theorem len_size (s : ByteArray) : s.data.toList.length = s.size := by simp
theorem bytes_eq {a b : ByteArray} (h : (a.toList == b.toList) = true) : a = b := by
  rw [Lib.toList_data, Lib.toList_data, beq_iff_eq] at h
  exact ByteArray.ext (Array.toList_inj.1 h)
theorem cell_new_row (w : World) (cs : Array Value) (t : TypeId) (i : Nat) : (w.alloc (.cells cs t)).cell? ⟨w.heap.size, i, none⟩ = cs[i]? := by
  have h := heap_alloc_new w (.cells cs t)
  unfold World.cell?
  rw [h]; rfl
theorem hid {p : Prop} (h : p) : Hid p := h
theorem own_base {w : World} {B B' e size k : Nat} {v : Value} {xs : List Value} (h : w.ownsRow B e size v k xs) (hB : B' ≤ B) : w.ownsRow B' e size v k xs := by
  obtain ⟨h1, h2 | ⟨g, cap, cur, a, b, c⟩⟩ := h
  · exact ⟨h1, .inl h2⟩
  · exact ⟨h1, .inr ⟨g, cap, cur, a, Nat.le_trans hB b, c⟩⟩
theorem own_below {w w1 : World} {B e size k : Nat} {v : Value} {xs : List Value} (h : w.ownsRow B e size v k xs) (hb : Below w.heap.size w w1) : w1.ownsRow B e size v k xs := by
  obtain ⟨h1, h2 | ⟨g, cap, cur, a, b, c, d⟩⟩ := h
  · exact ⟨h1, .inl h2⟩
  · refine ⟨h1, .inr ⟨g, cap, cur, a, b, ?_, d⟩⟩
    have hg : g < w.heap.size := (Array.getElem?_eq_some_iff.1 c).1
    rw [hb.block g hg]; exact c
/-- The call answered a bool, and the bool says whether P. -/
def Says (e : Ending) (P : Prop) : Prop := ∃ b, e = .returned (.bool b) ∧ (b = true ↔ P)
theorem says_t {P : Prop} (h : P) : Says (.returned (.bool true)) P := ⟨true, rfl, by simp [h]⟩
theorem says_f {P : Prop} (h : ¬ P) : Says (.returned (.bool false)) P := ⟨false, rfl, by simp [h]⟩
theorem Says.get {e : Ending} {P : Prop} (h : Says e P) : e = .returned (.bool true) ∧ P ∨ e = .returned (.bool false) ∧ ¬ P := by
  obtain ⟨b, rfl, hb⟩ := h
  cases b
  · exact .inr ⟨rfl, fun h => by simp [h] at hb⟩
  · exact .inl ⟨rfl, hb.1 rfl⟩
theorem btree {w wr : World} {X : Obj} (h : Below (w.heap.size + 1) (w.alloc X) wr) : Below w.heap.size w wr :=
  Below.trans ((Below.refl w.heap.size w).alloc (Nat.le_refl _) X) (h.mono (B' := w.heap.size) (Nat.le_succ _))
theorem tree_cell {w wr : World} {v : Value} {t : TypeId} (h : Below (w.heap.size + 1) (w.alloc (.cells #[v] t)) wr) : wr.cell? ⟨w.heap.size, 0, none⟩ = some v := by
  rw [h.cell (p := ⟨w.heap.size, 0, none⟩) (Nat.lt_succ_self _), cell_new_row]; rfl
/-- A row of one-cell elements in block g: n of cap are in use and hold xs. -/
def RowAt (W : World) (e : TypeId) (g cap n : Nat) (xs : List Value) : Prop := xs.length = n ∧ n ≤ cap ∧ cap ≤ maxLen ∧ ∃ cur, W.heap[g]? = some (.cells cur e (0, 0)) ∧ cur.size = cap ∧ cur.toList.take n = xs
theorem RowAt.own {W : World} {B : Nat} {e : TypeId} {g cap n : Nat} {xs : List Value} (h : RowAt W e g cap n xs) (hB : B ≤ g) : W.ownsRow B e 1 (.slice (some ⟨g, 0, none⟩) n cap) n xs := by
  obtain ⟨h1, h2, h3, cur, h4, h5, h6⟩ := h
  exact ⟨by omega, .inr ⟨g, cap, cur, rfl, hB, h4, h2, h3, by omega, by rw [Nat.mul_one]; exact h6⟩⟩
theorem RowAt.of_own {W : World} {B : Nat} {e : TypeId} {v : Value} {n : Nat} {xs : List Value} (h : W.ownsRow B e 1 v n xs) (hv : ¬ v = .slice none 0 0) : ∃ g cap, v = .slice (some ⟨g, 0, none⟩) n cap ∧ B ≤ g ∧ RowAt W e g cap n xs := by
  obtain ⟨h1, ⟨h2, _⟩ | ⟨g, cap, cur, h2, h3, h4, h5, h6, h7, h8⟩⟩ := h
  · exact absurd h2 hv
  · exact ⟨g, cap, h2, h3, by omega, h5, h6, cur, h4, by omega, by rw [Nat.mul_one] at h8; exact h8⟩
theorem RowAt.lt {W : World} {e : TypeId} {g cap n : Nat} {xs : List Value} (h : RowAt W e g cap n xs) : g < W.heap.size := by
  obtain ⟨_, _, _, cur, h4, _⟩ := h
  exact (Array.getElem?_eq_some_iff.1 h4).1
theorem RowAt.keep {W W' : World} {e : TypeId} {g cap n : Nat} {xs : List Value} (h : RowAt W e g cap n xs) (hk : W'.heap[g]? = W.heap[g]?) : RowAt W' e g cap n xs := by
  obtain ⟨h1, h2, h3, cur, h4, h5⟩ := h
  exact ⟨h1, h2, h3, cur, hk.trans h4, h5⟩
theorem RowAt.alloc {W : World} {e : TypeId} {g cap n : Nat} {xs : List Value} (h : RowAt W e g cap n xs) (o : Obj) : RowAt (W.alloc o) e g cap n xs := h.keep (Below.heap_alloc W o g h.lt)
theorem RowAt.grown {W W' : World} {e : TypeId} {g cap n : Nat} {xs : List Value} {row : Option Nat} (h : RowAt W e g cap n xs) (hg : W.grownBy W' row) (hne : row ≠ some g) : RowAt W' e g cap n xs := h.keep (hg.block g h.lt (fun e => hne e.symm))
theorem RowAt.below {W W' : World} {e : TypeId} {g cap n B : Nat} {xs : List Value} (h : RowAt W e g cap n xs) (hb : Below B W W') (hB : g < B) : RowAt W' e g cap n xs := h.keep (hb.block g hB)
theorem RowAt.front {W : World} {e : TypeId} {g cap n : Nat} {xs ys : List Value} (h : RowAt W e g cap n (xs ++ ys)) : RowAt W e g cap xs.length xs := by
  obtain ⟨h1, h2, h3, cur, h4, h5, h6⟩ := h
  rw [List.length_append] at h1
  refine ⟨rfl, by omega, h3, cur, h4, h5, ?_⟩
  have : (cur.toList.take n).take xs.length = (xs ++ ys).take xs.length := by rw [h6]
  rw [List.take_take, Nat.min_eq_left (by omega)] at this
  rw [this]; simp
theorem RowAt.cell {W : World} {e : TypeId} {g cap n : Nat} {xs : List Value} (h : RowAt W e g cap n xs) (i : Nat) (hi : i < n) : W.cell? ⟨g, i, none⟩ = xs[i]? := by
  obtain ⟨h1, h2, h3, cur, h4, h5, h6⟩ := h
  have e1 : W.cell? ⟨g, i, none⟩ = cur[i]? := by unfold World.cell?; rw [h4]; rfl
  rw [e1, ← h6, List.getElem?_take_of_lt hi]; simp
def intRow (s : List Nat) : List Value := s.map fun (x : Nat) => Value.int .i64 (x : Int)
theorem intRow_length (s : List Nat) : (intRow s).length = s.length := by simp [intRow]
theorem intRow_append (s t : List Nat) : intRow (s ++ t) = intRow s ++ intRow t := by simp [intRow]
theorem intRow_one (s : List Nat) : ∀ u ∈ intRow s, u.oneCell' = true := by
  intro u hu
  obtain ⟨x, _, rfl⟩ := List.mem_map.1 hu
  rfl
theorem info_int : (Tryd.prog.info? 3).map (fun i => (i.zero, i.size, i.bytes)) = some (some (.int .i64 0), 1, 8) := by kernel_rfl
theorem info_ints : (Tryd.prog.info? 93).map (fun i => (i.zero, i.size, i.bytes)) = some (some (.slice none 0 0), 1, 24) := by kernel_rfl
theorem tail_cells {W : World} {g cap n p : Nat} {sp sk : List Nat} (h : RowAt W 3 g cap n (intRow (sp ++ sk))) (hp : sp.length = p) : ∀ j u, (intRow sk)[j]? = some u → W.cell? ((⟨g, p, none⟩ : Addr).add j) = some u := by
  intro j u hj
  have hjl : j < sk.length := by
    have := (List.getElem?_eq_some_iff.1 hj).1
    rwa [intRow_length] at this
  have hn : n = sp.length + sk.length := by rw [← h.1, intRow_length, List.length_append]
  have e : ((⟨g, p, none⟩ : Addr).add j) = ⟨g, p + j, none⟩ := by unfold Addr.add; simp
  rw [e, h.cell (p + j) (by omega), intRow_append, List.getElem?_append_right (by rw [intRow_length]; omega), intRow_length, hp, Nat.add_sub_cancel_left]
  exact hj
theorem own_one {w : World} {B e size k : Nat} {v : Value} {xs : List Value} (h : w.ownsRow B e size v k xs) : v.oneCell' = true := by
  obtain ⟨_, ⟨rfl, rfl⟩ | ⟨g, cap, cur, rfl, _⟩⟩ := h
  · rfl
  · rfl
theorem some_not_nil {a : Addr} {n c : Nat} {P : Prop} {v : Value} (h : v = .slice none 0 0 ↔ Value.slice (some a) n c = .slice none 0 0 ∧ P) : ¬ v = .slice none 0 0 := fun e => by have := (h.1 e).1; cases this
theorem add_block (a : Addr) (n : Nat) : (a.add n).block = a.block := by unfold Addr.add; split <;> rfl
theorem below_two' (w : World) (a b : Obj) : Below w.heap.size w ((w.alloc a).alloc b) := ((Below.refl _ _).alloc (Nat.le_refl _) a).alloc (by simp) b
theorem set_at {W : World} {g i : Nat} {cur : Array Value} {t : TypeId} (v : Value) (h : W.heap[g]? = some (.cells cur t (0, 0))) : (W.setCell ⟨g, i, none⟩ v).heap[g]? = some (.cells (cur.setIfInBounds i v) t (0, 0)) := by
  unfold World.setCell
  simp only [Array.getElem?_modify, h]
  simp
theorem below_set {B : Nat} {w w' : World} (h : Below B w w') (g i : Nat) (hg : B ≤ g) (v : Value) : Below B w (w'.setCell ⟨g, i, none⟩ v) := h.setCell hg v
theorem add_one (a : Addr) (n : Nat) (h : n ≠ 0) : a.add n = ⟨a.block, a.off + n, none⟩ := by unfold Addr.add; rw [if_neg h]
theorem Says.pos {e : Ending} {P : Prop} (h : Says e P) (hp : P) : e = .returned (.bool true) := by
  rcases h.get with ⟨h, _⟩ | ⟨_, h⟩
  · exact h
  · exact absurd hp h
theorem Says.neg {e : Ending} {P : Prop} (h : Says e P) (hp : ¬ P) : e = .returned (.bool false) := by
  rcases h.get with ⟨_, h⟩ | ⟨h, _⟩
  · exact absurd h hp
  · exact h
theorem below_drewN {B : Nat} {w w' : World} (h : Below B w w') (n : Nat) : Below B w (w'.drewN n) := by
  induction n with
  | zero => exact h
  | succ n ih => exact ih.drew
/-- The four cells of an atom. -/
def atV (x : At) : Value := .agg #[.int .i64 x.kind, .int .i64 x.n, .string x.text, .int .i64 x.kids]
def FourAt (W : World) (b o : Nat) (x : At) : Prop :=
  W.cell? ⟨b, o, none⟩ = some (.int .i64 x.kind) ∧ W.cell? ⟨b, o + 1, none⟩ = some (.int .i64 x.n) ∧ W.cell? ⟨b, o + 2, none⟩ = some (.string x.text) ∧ W.cell? ⟨b, o + 3, none⟩ = some (.int .i64 x.kids)
theorem FourAt.below {W W' : World} {B b o : Nat} {x : At} (h : FourAt W b o x) (hb : Below B W W') (hB : b < B) : FourAt W' b o x := by
  obtain ⟨h0, h1, h2, h3⟩ := h
  exact ⟨(hb.cell (p := ⟨b, _, none⟩) hB).trans h0, (hb.cell (p := ⟨b, _, none⟩) hB).trans h1, (hb.cell (p := ⟨b, _, none⟩) hB).trans h2, (hb.cell (p := ⟨b, _, none⟩) hB).trans h3⟩
/-- Atoms in block b, from place o on. -/
def AtomsAt (W : World) (b o : Nat) (l : List At) : Prop := ∀ i x, l[i]? = some x → FourAt W b (o + i * 4) x
theorem AtomsAt.below {W W' : World} {B b o : Nat} {l : List At} (h : AtomsAt W b o l) (hb : Below B W W') (hB : b < B) : AtomsAt W' b o l := fun i x hx => (h i x hx).below hb hB
theorem AtomsAt.mid {W : World} {b o : Nat} {p m r : List At} (h : AtomsAt W b o (p ++ (m ++ r))) : AtomsAt W b (o + p.length * 4) m := by
  intro i x hx
  have hi := (List.getElem?_eq_some_iff.1 hx).1
  have := h (p.length + i) x (by rw [List.getElem?_append_right (by omega), Nat.add_sub_cancel_left, List.getElem?_append_left hi]; exact hx)
  rw [show o + p.length * 4 + i * 4 = o + (p.length + i) * 4 by omega]
  exact this
end Go.Proofs.YtfbfmhmpoaplaaaDoor
