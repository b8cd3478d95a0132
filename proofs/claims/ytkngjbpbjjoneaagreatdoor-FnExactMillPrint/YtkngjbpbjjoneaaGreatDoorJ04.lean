import Derived.Test.YtkngjbpbjjoneaaGreatDoorJ01
/-! Printed by gen_fld.py. -/
namespace Go.Proofs.YtkngjbpbjjoneaaGreatDoor.Q
open Go.RowKit Go.Shelf
set_option maxRecDepth 20000
theorem six_new {w w1 : World} {a0 a1 a2 a3 a4 a5 : Value} {t : TypeId} (h : Below (w.alloc (.cells #[a0, a1, a2, a3, a4, a5] t)).heap.size (w.alloc (.cells #[a0, a1, a2, a3, a4, a5] t)) w1) :
    w1.cell? ⟨w.heap.size, 0, none⟩ = some a0 ∧ w1.cell? ⟨w.heap.size, 1, none⟩ = some a1 ∧ w1.cell? ⟨w.heap.size, 2, none⟩ = some a2 ∧ w1.cell? ⟨w.heap.size, 3, none⟩ = some a3 ∧ w1.cell? ⟨w.heap.size, 4, none⟩ = some a4 ∧ w1.cell? ⟨w.heap.size, 5, none⟩ = some a5 := by
  have f : ∀ i, w1.cell? ⟨w.heap.size, i, none⟩ = #[a0, a1, a2, a3, a4, a5][i]? := fun i => by
    rw [h.cell (p := ⟨w.heap.size, i, none⟩) (by simp), cell_new_row]
  exact ⟨f 0, f 1, f 2, f 3, f 4, f 5⟩
theorem plain_1 (op ty n kids : Int) (t : ByteArray) : PlainNd ⟨1, op, ty, n, t, kids⟩ ↔ op = 0 ∧ t.toList.isEmpty = true ∧ NumOk ty n := by simp [PlainNd, useOp, useTy, useN, useName, useText]
theorem plain_2 (op ty n kids : Int) (t : ByteArray) : PlainNd ⟨2, op, ty, n, t, kids⟩ ↔ op = 0 ∧ ty = 0 ∧ n = 0 ∧ t.size ≤ 3000 := by simp [PlainNd, useOp, useTy, useN, useName, useText]
theorem plain_3 (op ty n kids : Int) (t : ByteArray) : PlainNd ⟨3, op, ty, n, t, kids⟩ ↔ op = 0 ∧ ty = 0 ∧ t.toList.isEmpty = true ∧ (n = 0 ∨ n = 1) := by simp [PlainNd, useOp, useTy, useN, useName, useText]
theorem plain_4 (op ty n kids : Int) (t : ByteArray) : PlainNd ⟨4, op, ty, n, t, kids⟩ ↔ op = 0 ∧ ty = 0 ∧ n = 0 ∧ NameOk t := by simp [PlainNd, useOp, useTy, useN, useName, useText]
theorem plain_5 (op ty n kids : Int) (t : ByteArray) : PlainNd ⟨5, op, ty, n, t, kids⟩ ↔ ty = 0 ∧ n = 0 ∧ t.toList.isEmpty = true ∧ 1 ≤ op ∧ op ≤ 3 := by simp [PlainNd, useOp, useTy, useN, useName, useText]
theorem plain_6 (op ty n kids : Int) (t : ByteArray) : PlainNd ⟨6, op, ty, n, t, kids⟩ ↔ ty = 0 ∧ n = 0 ∧ t.toList.isEmpty = true ∧ 1 ≤ op ∧ op ≤ 18 := by simp [PlainNd, useOp, useTy, useN, useName, useText]
theorem plain_7 (op ty n kids : Int) (t : ByteArray) : PlainNd ⟨7, op, ty, n, t, kids⟩ ↔ op = 0 ∧ ty = 0 ∧ n = 0 ∧ NameOk t := by simp [PlainNd, useOp, useTy, useN, useName, useText]
theorem plain_8 (op ty n kids : Int) (t : ByteArray) : PlainNd ⟨8, op, ty, n, t, kids⟩ ↔ ty = 0 ∧ n = 0 ∧ t.toList.isEmpty = true ∧ 1 ≤ op ∧ op ≤ 12 := by simp [PlainNd, useOp, useTy, useN, useName, useText]
theorem plain_9 (op ty n kids : Int) (t : ByteArray) : PlainNd ⟨9, op, ty, n, t, kids⟩ ↔ op = 0 ∧ n = 0 ∧ t.toList.isEmpty = true ∧ 3 ≤ ty ∧ ty ≤ 10 := by simp [PlainNd, useOp, useTy, useN, useName, useText]
theorem plain_10 (op ty n kids : Int) (t : ByteArray) : PlainNd ⟨10, op, ty, n, t, kids⟩ ↔ op = 0 ∧ ty = 0 ∧ n = 0 ∧ NameOk t := by simp [PlainNd, useOp, useTy, useN, useName, useText]
theorem plain_11 (op ty n kids : Int) (t : ByteArray) : PlainNd ⟨11, op, ty, n, t, kids⟩ ↔ op = 0 ∧ ty = 0 ∧ n = 0 ∧ NameOk t := by simp [PlainNd, useOp, useTy, useN, useName, useText]
theorem plain_12 (op ty n kids : Int) (t : ByteArray) : PlainNd ⟨12, op, ty, n, t, kids⟩ ↔ op = 0 ∧ ty = 0 ∧ n = 0 ∧ t.toList.isEmpty = true := by simp [PlainNd, useOp, useTy, useN, useName, useText]
theorem plain_13 (op ty n kids : Int) (t : ByteArray) : PlainNd ⟨13, op, ty, n, t, kids⟩ ↔ op = 0 ∧ ty = 0 ∧ n = 0 ∧ t.toList.isEmpty = true := by simp [PlainNd, useOp, useTy, useN, useName, useText]
theorem plain_14 (op ty n kids : Int) (t : ByteArray) : PlainNd ⟨14, op, ty, n, t, kids⟩ ↔ op = 0 ∧ ty = 0 ∧ n = 0 ∧ t.toList.isEmpty = true := by simp [PlainNd, useOp, useTy, useN, useName, useText]
theorem plain_15 (op ty n kids : Int) (t : ByteArray) : PlainNd ⟨15, op, ty, n, t, kids⟩ ↔ op = 0 ∧ ty = 0 ∧ n = 0 ∧ t.toList.isEmpty = true := by simp [PlainNd, useOp, useTy, useN, useName, useText]
theorem plain_16 (op ty n kids : Int) (t : ByteArray) : PlainNd ⟨16, op, ty, n, t, kids⟩ ↔ op = 0 ∧ ty = 0 ∧ n = 0 ∧ t.toList.isEmpty = true := by simp [PlainNd, useOp, useTy, useN, useName, useText]
theorem plain_17 (op ty n kids : Int) (t : ByteArray) : PlainNd ⟨17, op, ty, n, t, kids⟩ ↔ op = 0 ∧ ty = 0 ∧ n = 0 ∧ t.toList.isEmpty = true := by simp [PlainNd, useOp, useTy, useN, useName, useText]
theorem plain_18 (op ty n kids : Int) (t : ByteArray) : PlainNd ⟨18, op, ty, n, t, kids⟩ ↔ op = 0 ∧ ty = 0 ∧ n = 0 ∧ t.toList.isEmpty = true := by simp [PlainNd, useOp, useTy, useN, useName, useText]
theorem plain_19 (op ty n kids : Int) (t : ByteArray) : PlainNd ⟨19, op, ty, n, t, kids⟩ ↔ op = 0 ∧ ty = 0 ∧ n = 0 ∧ t.toList.isEmpty = true := by simp [PlainNd, useOp, useTy, useN, useName, useText]
theorem plain_20 (op ty n kids : Int) (t : ByteArray) : PlainNd ⟨20, op, ty, n, t, kids⟩ ↔ op = 0 ∧ ty = 0 ∧ n = 0 ∧ t.toList.isEmpty = true := by simp [PlainNd, useOp, useTy, useN, useName, useText]
theorem plain_21 (op ty n kids : Int) (t : ByteArray) : PlainNd ⟨21, op, ty, n, t, kids⟩ ↔ op = 0 ∧ ty = 0 ∧ n = 0 ∧ t.toList.isEmpty = true := by simp [PlainNd, useOp, useTy, useN, useName, useText]
theorem plain_22 (op ty n kids : Int) (t : ByteArray) : PlainNd ⟨22, op, ty, n, t, kids⟩ ↔ op = 0 ∧ n = 0 ∧ NameOk t ∧ 1 ≤ ty ∧ ty ≤ 10 := by simp [PlainNd, useOp, useTy, useN, useName, useText]
theorem plain_23 (op ty n kids : Int) (t : ByteArray) : PlainNd ⟨23, op, ty, n, t, kids⟩ ↔ op = 0 ∧ n = 0 ∧ NameOk t ∧ 0 ≤ ty ∧ ty ≤ 10 := by simp [PlainNd, useOp, useTy, useN, useName, useText]
theorem plain_24 (op ty n kids : Int) (t : ByteArray) : PlainNd ⟨24, op, ty, n, t, kids⟩ ↔ op = 0 ∧ ty = 0 ∧ n = 0 ∧ t.toList.isEmpty = true := by simp [PlainNd, useOp, useTy, useN, useName, useText]
theorem plain_E (k op ty n kids : Int) (t : ByteArray) (hk : k < 1 ∨ 24 < k) : PlainNd ⟨k, op, ty, n, t, kids⟩ ↔ op = 0 ∧ ty = 0 ∧ n = 0 ∧ t.toList.isEmpty = true := by
  have hn : ∀ x : Int, 1 ≤ x → x ≤ 24 → ¬ k = x := fun x h1 h2 => by omega
  have n1 := hn 1 (by decide) (by decide)
  have n2 := hn 2 (by decide) (by decide)
  have n3 := hn 3 (by decide) (by decide)
  have n4 := hn 4 (by decide) (by decide)
  have n5 := hn 5 (by decide) (by decide)
  have n6 := hn 6 (by decide) (by decide)
  have n7 := hn 7 (by decide) (by decide)
  have n8 := hn 8 (by decide) (by decide)
  have n9 := hn 9 (by decide) (by decide)
  have n10 := hn 10 (by decide) (by decide)
  have n11 := hn 11 (by decide) (by decide)
  have n22 := hn 22 (by decide) (by decide)
  have n23 := hn 23 (by decide) (by decide)
  clear hn hk
  simp [PlainNd, useOp, useTy, useN, useName, useText, *]
theorem num_T (T : Nat) (h3 : 3 ≤ T) (h10 : T ≤ 10) (n : Int) : NumOk (T : Int) n ↔ IntKind.u64.wrap n ≤ (mmax T : Int) := by
  constructor
  · rintro ⟨T', e, _, _, h⟩
    obtain rfl : T = T' := by omega
    exact h
  · intro h; exact ⟨T, rfl, h3, h10, h⟩
end Go.Proofs.YtkngjbpbjjoneaaGreatDoor.Q
/-! A region that draws its order, whose operations only read and whose callees read and make memory of their own. -/
namespace Go.Proofs.YtkngjbpbjjoneaaGreatDoor.Q
open Go.RowKit Go.Shelf
set_option maxRecDepth 20000
/-- A world behind w in which all that lay in w is as it was. -/
structure Gr (w : World) where
  W : World
  h : Below w.heap.size w W
theorem wp_region_gr {P : Program} {id : Nat} {Q : Exit → Act → World → Prop} {a : Act} {w : World} {l : List Oper} (hm : P.follows .mixedOrders = true) (hB : Region.lexB .any l.toArray = true)
    (h : wpQuiet P l.toArray (fun w' => ∃ p : Gr w, w' = p.W) (fun a' => ∀ w', (∃ p : Gr w, w' = p.W) → Q .normal a' w') l a) : (Code.region id l.toArray true).wp P Q a w :=
  wp_region_quiet (C := fun w' => ∃ p : Gr w, w' = p.W) hm hB ⟨⟨w.drew, (Below.refl _ _).drew⟩, rfl⟩ (by simpa using h)
theorem Calls.gr_of {P : Program} {f : FuncId} {args : Array Value} {w : World} {p : Gr w} {v : Value} (h : Below w.heap.size w p.W → Calls P f args p.W fun e w' => e = .returned v ∧ Below p.W.heap.size p.W w') :
    Calls P f args p.W fun e w'' => e = .returned v ∧ ∃ p : Gr w, w'' = p.W :=
  (h p.h).mono fun _ w' ⟨he, hb⟩ => ⟨he, ⟨w', p.h.trans (hb.mono p.h.size)⟩, rfl⟩
end Go.Proofs.YtkngjbpbjjoneaaGreatDoor.Q
