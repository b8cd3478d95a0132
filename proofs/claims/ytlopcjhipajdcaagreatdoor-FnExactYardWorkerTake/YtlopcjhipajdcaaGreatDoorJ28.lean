import Derived.Lib.FrozenHead2
import Derived.Laws.IdiomStrings
import Derived.Test.YtlopcjhipajdcaaGreatDoorJ27
/-! Bytes of the call's own that were a text: the row bears the run-time's mark behind its last cell. -/
namespace Go.Proofs.YtlopcjhipajdcaaGreatDoor.Y
open Go.RowKit
open Go.Proofs.YtlopcjhipajdcaaGreatDoor.R (hid add_at lt_hp)
set_option maxRecDepth 20000
/-- Cells are stored into a row of which nothing is frozen but behind its end. -/
theorem storeCells_atM (P : Program) (g o : Nat) (t : TypeId) (fz : Nat × Nat) : ∀ (vs : List Value) (i : Nat) (cur : Array Value) (w : World), w.heap[g]? = some (.cells cur t fz) → (fz.2 = 0 ∨ cur.size ≤ fz.1) → o + i + vs.length ≤ cur.size → (∀ v ∈ vs, v.oneCell' = true) →
    (storeCells ⟨g, o, none⟩ vs i).run P w = .ok () (w.setRow g (cur.toList.take (o + i) ++ vs ++ cur.toList.drop (o + i + vs.length)).toArray)
  | [], i, cur, w, hg, _, _, _ => by
    simp only [storeCells, List.append_nil, List.length_nil, Nat.add_zero, List.take_append_drop, Array.toArray_toList]
    rw [setRow_self w g cur t fz hg]
    rfl
  | v :: rest, i, cur, w, hg, hfz, hl, h1 => by
    have hi : o + i < cur.size := by simp at hl; omega
    have hadd : (⟨g, o, none⟩ : Addr).add i = ⟨g, o + i, none⟩ := by unfold Addr.add; split <;> simp_all
    have hcell : w.cell? ⟨g, o + i, none⟩ = some cur[o + i] := by simp [World.cell?, hg, hi]
    have hfro : w.frozen? ⟨g, o + i, none⟩ = false := by
      obtain ⟨lo, hi'⟩ := fz
      simp only [World.frozen?, hg, Bool.and_eq_false_iff, decide_eq_false_iff_not]
      simp only at hfz
      omega
    have hst : (store ((⟨g, o, none⟩ : Addr).add i) v).run P w = .ok () (w.setRow g (cur.setIfInBounds (o + i) v)) := by
      rw [hadd, run_store P w _ v _ (h1 v (by simp)), hcell]
      simp [hfro, setCell_eq_setRow w g (o + i) cur t fz v hg]
    have ih := storeCells_atM P g o t fz rest (i + 1) (cur.setIfInBounds (o + i) v) (w.setRow g (cur.setIfInBounds (o + i) v)) (setRow_heap w g cur _ t _ hg) (by simpa using hfz) (by simp at hl ⊢; omega) (fun x hx => h1 x (by simp [hx]))
    simp only [storeCells, Sem.run_bind, hst, Result.andThen_ok, ih, setRow_setRow]
    congr 3
    have e := list_seg_step cur.toList (o + i) v rest (by simp at hl ⊢; omega)
    simpa [Array.toList_setIfInBounds, Nat.add_assoc] using e
/-- v is n bytes of the call's own. -/
def OwnB (B : Nat) (W : World) (v : Value) (n : Nat) : Prop := ∃ (g cap : Nat) (cur : Array Value) (fz : Nat × Nat) (l : List UInt8), v = .slice (some ⟨g, 0, none⟩) n cap ∧ B ≤ g ∧ W.heap[g]? = some (.cells cur 5 fz) ∧ (fz.2 = 0 ∨ cur.size ≤ fz.1) ∧ n ≤ cap ∧ cap ≤ maxLen ∧ cur.size = cap ∧ l.length = n ∧ cur.toList.take n = Lib.byteCells l
theorem OwnB.sl {B : Nat} {W : World} {v : Value} {n : Nat} (h : OwnB B W v n) : ∃ g cap, v = .slice (some ⟨g, 0, none⟩) n cap ∧ B ≤ g ∧ g < W.heap.size := by
  obtain ⟨g, cap, cur, fz, l, e, h1, h2, _⟩ := h
  exact ⟨g, cap, e, h1, lt_hp h2⟩
theorem OwnB.lt {B : Nat} {W : World} {v : Value} {n : Nat} (h : OwnB B W v n) : ∀ k, v.ownBlock = some k → B ≤ k ∧ k < W.heap.size := by
  obtain ⟨g, cap, e, h1, h2⟩ := h.sl
  subst e
  intro k hk
  simp [Value.ownBlock] at hk
  subst hk
  exact ⟨h1, h2⟩
theorem OwnB.next {B : Nat} {W V : World} {v : Value} {n : Nat} (h : OwnB B W v n) (hb : Below W.heap.size W V) : OwnB B V v n := by
  obtain ⟨g, cap, cur, fz, l, e, h1, h2, h3⟩ := h
  exact ⟨g, cap, cur, fz, l, e, h1, (hb.block g (lt_hp h2)).trans h2, h3⟩
theorem OwnB.len {B : Nat} {W : World} {v : Value} {n : Nat} (h : OwnB B W v n) : n ≤ maxLen := by
  obtain ⟨g, cap, cur, fz, l, e, h1, h2, h3, h4, h5, _⟩ := h
  exact Nat.le_trans h4 h5
/-- '[]byte(s)' is bytes of the call's own. -/
theorem conv_fun : ∃ (cp : ByteArray → World → Nat) (cw : ByteArray → World → World), ∀ (s : ByteArray) (w : World),
    (convert 9 112 (.string s)).run Tryz.prog w = .ok (.slice (some ⟨w.heap.size, 0, none⟩) s.size (cp s w)) (cw s w) ∧ Below w.heap.size w (cw s w) ∧
    (s.size ≤ 1000000000 → OwnB w.heap.size (cw s w) (.slice (some ⟨w.heap.size, 0, none⟩) s.size (cp s w)) s.size) := by
  refine ⟨fun s w => grownCap w s.size 0 5, _, fun s w => ⟨run_bytes_of_string (P := Tryz.prog) w 9 112 5 s Tryz.underlying9 Tryz.underlying112 Tryz.underlying5, (Below.refl _ _).drew.alloc (Nat.le_refl _) _, fun hs => ?_⟩⟩
  have hge := grownCap_ge w s.size 0 5
  have hcm : grownCap w s.size 0 5 ≤ maxLen := grownCap_le_maxLen w s.size 0 5 (by unfold maxLen; omega)
  show OwnB w.heap.size (w.drew.alloc (.cells (bytesRow s (grownCap w s.size 0 5)) 5 ((bytesRow s (grownCap w s.size 0 5)).size, (bytesRow s (grownCap w s.size 0 5)).size + 1))) (.slice (some ⟨w.heap.size, 0, none⟩) s.size (grownCap w s.size 0 5)) s.size
  generalize grownCap w s.size 0 5 = cap at hge hcm ⊢
  have hsz : (bytesRow s cap).size = cap := by
    have : s.data.size = s.size := rfl
    simp only [bytesRow, Array.size_append, Array.size_map, Array.size_replicate]
    omega
  refine ⟨w.heap.size, cap, _, _, s.data.toList, rfl, Nat.le_refl _, heap_alloc_new w.drew _, .inr (Nat.le_refl _), hge, hcm, hsz, by simp, ?_⟩
  have e : (bytesRow s cap).toList = Lib.byteCells s.data.toList ++ List.replicate (cap - s.size) (.int .u8 0) := by
    simp [bytesRow, Lib.byteCells]
  rw [e]
  have hl : (Lib.byteCells s.data.toList).length = s.size := by simp [Lib.byteCells]
  rw [← hl]
  exact List.take_left
theorem OwnB.mono {B B' : Nat} {W : World} {v : Value} {n : Nat} (h : OwnB B W v n) (hB : B' ≤ B) : OwnB B' W v n := by
  obtain ⟨g, cap, cur, fz, l, e, h1, h2⟩ := h
  exact ⟨g, cap, cur, fz, l, e, Nat.le_trans hB h1, h2⟩
/-- The text that bytes are. -/
theorem OwnB.str {B : Nat} {W : World} {v : Value} {n : Nat} (h : OwnB B W v n) : ∃ s : ByteArray, s.size = n ∧ (convert 112 9 v).run Tryz.prog W = .ok (.string s) W := by
  obtain ⟨g, cap, cur, fz, l, rfl, h1, h2, h3, h4, h5, h6, rfl, h8⟩ := h
  refine ⟨⟨l.toArray⟩, by show l.toArray.size = _; simp, run_convert_bytes_back W _ _ 5 _ cap l Tryz.underlying112 Tryz.underlying5 Tryz.underlying9 fun j hj => ?_⟩
  rw [add_at]
  unfold World.cell?
  rw [h2]
  have h9 : (cur.toList.take l.length)[j]? = (Lib.byteCells l)[j]? := by rw [h8]
  rw [List.getElem?_take, if_pos hj] at h9
  simp only [Array.getElem?_toList] at h9
  simp [h9, Lib.byteCells, hj]
/-- A text is put behind bytes. -/
theorem OwnB.app {B : Nat} {W : World} {v : Value} {n : Nat} (h : OwnB B W v n) (y : ByteArray) (ty : TypeId) (hB : B ≤ W.heap.size) (hn : n + y.size ≤ 100000000000) :
    ∃ v' w', (Builtin.append_ #[112, 9] ty #[v, .string y]).run Tryz.prog W = .ok v' w' ∧ OwnB B w' v' (n + y.size) ∧ W.grownBy w' v.ownBlock := by
  obtain ⟨i0, hi, hz0, hz1, hz2⟩ := Go.info_parts (P := Tryz.prog) (e := 5) (z := .int .u8 0) (size := 1) (bytes := 1) (by kernel_rfl)
  obtain ⟨g, cap, cur, fz, l, rfl, h1, h2, h3, h4, h5, h6, rfl, h8⟩ := h
  have hyl : (Lib.strCells y).length = y.size := Lib.strCells_length y
  by_cases hroom : l.length + y.size ≤ cap
  · have hf := Lib.run_firstCells_string (P := Tryz.prog) W 1 y
    have hst := storeCells_atM Tryz.prog g l.length 5 fz (Lib.strCells y) 0 cur W h2 h3 (by rw [hyl]; omega) (Lib.strCells_oneCell y)
    simp only [Nat.add_zero, hyl] at hst
    have hr : (Builtin.append_ #[112, 9] ty #[.slice (some ⟨g, 0, none⟩) l.length cap, .string y]).run Tryz.prog W = .ok (.slice (some ⟨g, 0, none⟩) (l.length + y.size) cap) (W.setRow g (cur.toList.take l.length ++ Lib.strCells y ++ cur.toList.drop (l.length + y.size)).toArray) := by
      simp [Builtin.append_, run_underlying Tryz.underlying112, run_underlying Tryz.underlying9, sizeOf, typeInfo, hi, hz1, Builtin.lenOf, hroom, hf, add_at, hst]
    refine ⟨_, _, hr, ⟨g, cap, _, fz, l ++ y.data.toList, rfl, h1, setRow_heap W g cur _ 5 _ h2, ?_, hroom, h5, ?_, by simp, ?_⟩, ⟨rfl, rfl, rfl, by simp, fun k _ hk => setRow_other W g k _ (fun e => hk (by simp [Value.ownBlock, e]))⟩⟩
    · rcases h3 with h3 | h3
      · exact .inl h3
      · right
        simp only [List.size_toArray, List.length_append, List.length_take, List.length_drop, Array.length_toList, hyl]
        omega
    · simp only [List.size_toArray, List.length_append, List.length_take, List.length_drop, Array.length_toList, hyl]
      omega
    · rw [h8, Lib.strCells_eq, ← Lib.byteCells_append]
      have hl2 : (Lib.byteCells (l ++ y.data.toList)).length = l.length + y.size := by simp [Lib.byteCells]
      rw [← hl2]
      exact List.take_left
  · have holds : ∀ j u, (Lib.byteCells l)[j]? = some u → W.cell? ((⟨g, 0, none⟩ : Addr).add j) = some u := fun j u hu => by
      rw [add_at]
      unfold World.cell?
      rw [h2]
      rw [← h8, List.getElem?_take] at hu
      split at hu
      · simpa using hu
      · cases hu
    have hr := Lib.run_append_grow_string (P := Tryz.prog) W 112 9 ty 5 i0 (.int .u8 0) Tryz.underlying112 Tryz.underlying9 hi hz0 ⟨g, 0, none⟩ l.length cap (Lib.byteCells l) (by rw [hz1]; simp [Lib.byteCells]) holds y (by omega) (by omega) (by rw [hz2]; exact growslice_fits (by omega) (by omega))
    have hge := grownCap_ge W (l.length + y.size) cap 5
    have hcm2 : grownCap W (l.length + y.size) cap 5 ≤ maxLen := grownCap_le_maxLen W (l.length + y.size) cap 5 (by unfold maxLen; omega)
    refine ⟨_, _, hr, ⟨W.heap.size, _, _, (0, 0), l ++ y.data.toList, rfl, hB, heap_alloc_new W.drew _, .inl rfl, hge, hcm2, ?_, by simp, ?_⟩, ⟨rfl, rfl, rfl, by simp, fun k hk _ => Go.heap_alloc_old W.drew _ hk⟩⟩
    · have hz1 : (Value.int IntKind.u8 0).cells.size = 1 := rfl
      simp only [Array.size_append, List.size_toArray, size_zeroCells, hz1, hyl, Lib.byteCells, List.length_map]
      omega
    · simp only [Array.toList_append, List.append_assoc]
      rw [← List.append_assoc, Lib.strCells_eq, ← Lib.byteCells_append]
      have hl2 : (Lib.byteCells (l ++ y.data.toList)).length = l.length + y.size := by simp [Lib.byteCells]
      rw [← hl2]
      exact List.take_left
end Go.Proofs.YtlopcjhipajdcaaGreatDoor.Y
