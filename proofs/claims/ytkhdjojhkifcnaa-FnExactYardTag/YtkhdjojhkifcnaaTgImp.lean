import Derived.Test.YtkhdjojhkifcnaaJBase
import Derived.Maps.AppendAt
import Derived.Lib.Slices
import Derived.Lib.Strings
import Derived.Lib.BufferRead
import Derived.Laws.IdiomStrings
/-! The program's sum. -/
namespace Go.Proofs.Ytkhdjojhkifcnaa.Y
open Go.RowKit J
set_option maxRecDepth 20000
/-- A byte is combined into the sum; a text's bytes; the tag's bytes. -/
def stp (v : Int) (b : UInt8) : Int := IntKind.u64.wrap (bits BinOp.xor IntKind.u64 v (IntKind.u64.wrap b.toNat) * 1099511628211)
def sumL (v : Int) (l : List UInt8) : Int := l.foldl stp v
theorem sum_succ (v : Int) (s : ByteArray) (j : Nat) (h : j < s.size) : sumL v (s.data.toList.take (j + 1)) = stp (sumL v (s.data.toList.take j)) s[j] := by
  have h2 : j < s.data.toList.length := by simpa using h
  rw [List.take_succ_eq_append_getElem h2]
  simp [sumL]
  rfl
theorem sum_all (v : Int) (s : ByteArray) : sumL v (s.data.toList.take s.size) = sumL v s.data.toList := by
  rw [List.take_of_length_le (by simp)]
set_option maxHeartbeats 1000000 in
theorem isKey_any (s : ByteArray) (w : World) : Calls Try.prog 6 #[.string s] w fun e w' => e = .returned (.bool (decide (s.size ≤ 30))) ∧ w' = w := by
  go_enter Try.func6, Try.ntmps6
  go_wp2
  all_goals go_ret
  all_goals exact ⟨ret_bool (by rw [Bool.eq_iff_iff]; simp; try omega), rfl⟩
set_option maxHeartbeats 1000000 in
theorem with_any (v : Int) (s : ByteArray) (w : World) (hs : s.size ≤ 1048576) : Calls Try.prog 7 #[.int .u64 v, .string s] w fun e w' => e = .returned (.int .u64 (sumL v s.data.toList)) ∧ w' = w := by
  have HS := hid (sum_succ v s)
  have HA := hid (sum_all v s)
  go_enter Try.func7, Try.ntmps7
  go_wp2
  go_loopw [0, 8] (fun x c wr => ∃ j : Nat, j ≤ s.size ∧ c = .int .i64 j ∧ x = .int .u64 (sumL v (s.data.toList.take j)) ∧ wr = w) (fun _ c _ => s.size - (intOf c).toNat)
  case atStart => exact ⟨0, Nat.zero_le _, rfl, rfl, rfl⟩
  case round =>
    obtain ⟨j, hj, rfl, rfl, rfl⟩ := hrel
    by_cases hlt : j < s.size
    · have HJ := hid (HS.out j hlt)
      obtain ⟨V, hV⟩ : ∃ V, sumL v (s.data.toList.take j) = V := ⟨_, rfl⟩
      rw [hV] at HJ ⊢
      clear hV
      go_wp2
      go_roundw
      case rel => exact ⟨j + 1, by omega, by go_num, by rw [HJ.out]; rfl, trivial⟩
      case measure => simp [intOf]; omega
    · obtain rfl : j = s.size := by omega
      rw [HA.out]
      go_wp2
      go_ret
      exact ⟨rfl, rfl⟩
/-- 'string(b)' of a row that the call owns. -/
theorem conv_row (w : World) (base : Nat) (v : Value) (l : List UInt8) (h : w.ownsRow base 5 1 v l.length (Lib.byteCells l)) :
    (convert 25 9 v).run Try.prog w = .ok (.string ⟨l.toArray⟩) w := by
  obtain ⟨_, ⟨rfl, h0⟩ | ⟨g, cap, cur, rfl, _, hg, _, _, _, htk⟩⟩ := h
  · have e : l = [] := List.eq_nil_of_length_eq_zero h0
    subst e
    exact Lib.run_convert_nil_bytes w _ _ 5 0 Try.underlying25 Try.underlying5 Try.underlying9
  · exact run_convert_bytes_back w _ _ 5 _ cap l Try.underlying25 Try.underlying5 Try.underlying9 (Lib.bytes_of_row hg (by rw [Nat.mul_one] at htk; exact htk))
theorem own_slice' {w : World} {B e size k : Nat} {v : Value} {xs : List Value} (h : w.ownsRow B e size v k xs) : ∃ a cap, v = .slice a k cap := by
  rcases h.2 with ⟨hv, h0⟩ | ⟨g, cap, cur, hv, _⟩
  · exact ⟨none, 0, by rw [hv, h0]⟩
  · exact ⟨_, _, hv⟩
theorem cell_hp {W : World} {g : Nat} {cs : Array Value} {t : TypeId} (e : W.heap[g]? = some (.cells cs t (0, 0))) (i : Nat) : W.cell? ⟨g, i, none⟩ = cs[i]? := by
  unfold World.cell?
  rw [e]; rfl
theorem frozen_hp {W : World} {g : Nat} {cs : Array Value} {t : TypeId} (e : W.heap[g]? = some (.cells cs t (0, 0))) (i : Nat) : W.frozen? ⟨g, i, none⟩ = false := by
  unfold World.frozen?
  rw [e]; simp
def byt (v : Int) (j : Nat) : UInt8 := UInt8.ofNat (v / 2 ^ (8 * j) % 256).toNat
theorem byt_val (v : Int) (j : Nat) : ((byt v j).toNat : Int) = v / 2 ^ (8 * j) % 256 := by
  unfold byt
  have h1 := Int.emod_nonneg (v / 2 ^ (8 * j)) (b := 256) (by decide)
  have h2 := Int.emod_lt_of_pos (v / 2 ^ (8 * j)) (b := 256) (by decide)
  rw [UInt8.toNat_ofNat']
  omega
def cel (v : Int) (j k : Nat) : Value := .int .u8 (if k < j then v / 2 ^ (8 * k) % 256 else 0)
def arr (v : Int) (j : Nat) : Array Value := #[cel v j 7, cel v j 6, cel v j 5, cel v j 4, cel v j 3, cel v j 2, cel v j 1, cel v j 0]
def tagL (v : Int) : List UInt8 := [byt v 7, byt v 6, byt v 5, byt v 4, byt v 3, byt v 2, byt v 1, byt v 0]
theorem arr_set (v : Int) (j : Nat) (h : j < 8) : (arr v j).setIfInBounds (7 - j) (.int .u8 (v / 2 ^ (8 * j) % 256)) = arr v (j + 1) := by
  obtain rfl | rfl | rfl | rfl | rfl | rfl | rfl | rfl : j = 0 ∨ j = 1 ∨ j = 2 ∨ j = 3 ∨ j = 4 ∨ j = 5 ∨ j = 6 ∨ j = 7 := by omega
  all_goals rfl
theorem arr_cells (v : Int) : (arr v 8).toList = Lib.byteCells (tagL v) := by
  simp [arr, tagL, Lib.byteCells, cel, byt_val]
theorem set_arr {W : World} {g : Nat} {t : TypeId} {v : Int} {j i : Nat} {x : Int} (h : W.heap[g]? = some (.cells (arr v j) t (0, 0))) (hj : j < 8) (hi : i = 7 - j) (hx : x = v / 2 ^ (8 * j) % 256) :
    (W.setCell ⟨g, i, none⟩ (.int .u8 x)).heap[g]? = some (.cells (arr v (j + 1)) t (0, 0)) := by
  subst hi hx
  rw [set_at _ h, arr_set v j hj]
set_option maxHeartbeats 1000000 in
theorem text_any (v : Int) (w : World) : Calls Try.prog 8 #[.int .u64 v] w fun e w' => e = .returned (.string ⟨(tagL v).toArray⟩) ∧ Below w.heap.size w w' := by
  have HST : Hid ((w.alloc (.cells (arr v 0) 31)).heap[w.heap.size]? = some (.cells (arr v 0) 31 (0, 0))) := heap_alloc_new w _
  go_enter Try.func8, Try.ntmps8
  go_wp2
  go_loopw [5] (fun c wr => ∃ j : Nat, j ≤ 8 ∧ c = .int .i64 j ∧ wr.heap[w.heap.size]? = some (.cells (arr v j) 31 (0, 0)) ∧ Below w.heap.size w wr) (fun c _ => 8 - (intOf c).toNat)
  case atStart => exact ⟨0, Nat.zero_le _, rfl, HST.out, (Below.refl _ _).alloc (Nat.le_refl _) _⟩
  case round =>
    obtain ⟨j, hj, rfl, hx, hb⟩ := hrel
    have HX := hid hx
    have HB := hid hb
    obtain rfl | hlt : j = 8 ∨ j < 8 := by omega
    · have HC := hid (arr_cells v)
      clear hx hb
      have hcv : (convert 25 9 (.slice (some ⟨w.heap.size, 0, none⟩) 8 8)).run Try.prog wr = .ok (.string ⟨(tagL v).toArray⟩) wr := run_convert_bytes_back wr _ _ 5 _ 8 (tagL v) Try.underlying25 Try.underlying5 Try.underlying9 (Lib.bytes_of_row HX.out (by rw [← HC.out]; rfl))
      go_wp2
      go_ret
      exact ⟨rfl, HB.out⟩
    obtain rfl | rfl | rfl | rfl | rfl | rfl | rfl | rfl : j = 0 ∨ j = 1 ∨ j = 2 ∨ j = 3 ∨ j = 4 ∨ j = 5 ∨ j = 6 ∨ j = 7 := by omega
    · have c0 := cell_hp hx 7
      have f0 := frozen_hp hx 7
      simp only [arr, List.getElem?_toArray, List.getElem?_cons_succ, List.getElem?_cons_zero] at c0
      clear hx hb
      go_wp2
      go_roundw
      case rel => exact ⟨1, by omega, by go_num, set_arr HX.out (by decide) rfl (by simp), HB.out.setCell (Nat.le_refl _) _⟩
      case measure => simp [intOf]
    · have c0 := cell_hp hx 6
      have f0 := frozen_hp hx 6
      simp only [arr, List.getElem?_toArray, List.getElem?_cons_succ, List.getElem?_cons_zero] at c0
      clear hx hb
      go_wp2
      go_roundw
      case rel => exact ⟨2, by omega, by go_num, set_arr HX.out (by decide) rfl (by simp), HB.out.setCell (Nat.le_refl _) _⟩
      case measure => simp [intOf]
    · have c0 := cell_hp hx 5
      have f0 := frozen_hp hx 5
      simp only [arr, List.getElem?_toArray, List.getElem?_cons_succ, List.getElem?_cons_zero] at c0
      clear hx hb
      go_wp2
      go_roundw
      case rel => exact ⟨3, by omega, by go_num, set_arr HX.out (by decide) rfl (by simp), HB.out.setCell (Nat.le_refl _) _⟩
      case measure => simp [intOf]
    · have c0 := cell_hp hx 4
      have f0 := frozen_hp hx 4
      simp only [arr, List.getElem?_toArray, List.getElem?_cons_succ, List.getElem?_cons_zero] at c0
      clear hx hb
      go_wp2
      go_roundw
      case rel => exact ⟨4, by omega, by go_num, set_arr HX.out (by decide) rfl (by simp), HB.out.setCell (Nat.le_refl _) _⟩
      case measure => simp [intOf]
    · have c0 := cell_hp hx 3
      have f0 := frozen_hp hx 3
      simp only [arr, List.getElem?_toArray, List.getElem?_cons_succ, List.getElem?_cons_zero] at c0
      clear hx hb
      go_wp2
      go_roundw
      case rel => exact ⟨5, by omega, by go_num, set_arr HX.out (by decide) rfl (by simp), HB.out.setCell (Nat.le_refl _) _⟩
      case measure => simp [intOf]
    · have c0 := cell_hp hx 2
      have f0 := frozen_hp hx 2
      simp only [arr, List.getElem?_toArray, List.getElem?_cons_succ, List.getElem?_cons_zero] at c0
      clear hx hb
      go_wp2
      go_roundw
      case rel => exact ⟨6, by omega, by go_num, set_arr HX.out (by decide) rfl (by simp), HB.out.setCell (Nat.le_refl _) _⟩
      case measure => simp [intOf]
    · have c0 := cell_hp hx 1
      have f0 := frozen_hp hx 1
      simp only [arr, List.getElem?_toArray, List.getElem?_cons_succ, List.getElem?_cons_zero] at c0
      clear hx hb
      go_wp2
      go_roundw
      case rel => exact ⟨7, by omega, by go_num, set_arr HX.out (by decide) rfl (by simp), HB.out.setCell (Nat.le_refl _) _⟩
      case measure => simp [intOf]
    · have c0 := cell_hp hx 0
      have f0 := frozen_hp hx 0
      simp only [arr, List.getElem?_toArray, List.getElem?_cons_zero] at c0
      clear hx hb
      go_wp2
      go_roundw
      case rel => exact ⟨8, by omega, by go_num, set_arr HX.out (by decide) rfl (by simp), HB.out.setCell (Nat.le_refl _) _⟩
      case measure => simp [intOf]
theorem with_size (v : Int) (a b : List UInt8) : sumL v (a ++ b) = sumL (sumL v a) b := by simp [sumL]
/-- The sum of a key and a body. -/
def tagOf (body key : ByteArray) : List UInt8 := if key.size ≤ 30 then tagL (sumL 14695981039346656037 (key.data.toList ++ [0] ++ body.data.toList)) else []
set_option maxHeartbeats 1000000 in
theorem implTag_any (b k : ByteArray) (w : World) (hb : b.size ≤ 1048576) : Calls Try.prog 5 #[.string b, .string k] w fun e w' => e = .returned (.string ⟨(tagOf b k).toArray⟩) ∧ Below w.heap.size w w' := by
  go_enter Try.func5, Try.ntmps5
  go_wp2_with fail
  go_at_call 6
  refine (isKey_any _ _).mono ?_
  rintro e w1 ⟨rfl, rfl⟩
  by_cases hk : k.size ≤ 30
  · have HT : Hid (tagL (sumL (sumL (sumL 14695981039346656037 k.data.toList) [0]) b.data.toList) = tagOf b k) := by
      show _ = _
      rw [tagOf, if_pos hk, with_size, with_size]
    go_wp2_with fail
    go_at_call 7
    refine (with_any _ _ _ (by omega)).mono ?_
    rintro e w1 ⟨rfl, rfl⟩
    go_wp2_with fail
    go_at_call 7
    refine (with_any _ _ _ (by decide)).mono ?_
    rintro e w1 ⟨rfl, rfl⟩
    go_wp2_with fail
    go_at_call 7
    refine (with_any _ _ _ hb).mono ?_
    rintro e w1 ⟨rfl, rfl⟩
    go_wp2_with fail
    go_at_call 8
    refine (text_any _ _).mono ?_
    rintro e w1 ⟨rfl, hb1⟩
    go_wp2
    go_ret
    exact ⟨by rw [← HT.out]; rfl, hb1⟩
  · have HT : Hid (tagOf b k = []) := if_neg hk
    go_wp2
    go_ret
    exact ⟨by rw [HT.out]; rfl, Below.refl _ _⟩
end Go.Proofs.Ytkhdjojhkifcnaa.Y
