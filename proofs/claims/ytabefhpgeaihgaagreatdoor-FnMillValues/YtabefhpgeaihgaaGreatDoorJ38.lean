import Derived.Test.YtabefhpgeaihgaaGreatDoorJ13
import Derived.Test.YtabefhpgeaihgaaGreatDoorJ33
/-! num: the model's. Printed by gen_vfind.py. -/
namespace Go.Proofs.YtabefhpgeaihgaaGreatDoor.V
open Go.RowKit Go.Shelf
set_option maxRecDepth 20000
theorem foldW_take (l : List UInt8) (i : Nat) (h : i < l.length) : foldW (l.take (i + 1)) = accW (foldW (l.take i)) l[i] := by
  unfold foldW
  rw [List.take_succ_eq_append_getElem h, List.foldl_append]
  rfl
theorem foldW_bd (l : List UInt8) : 0 ≤ foldW l ∧ foldW l ≤ 18446744073709551615 := by
  rcases List.eq_nil_or_concat l with rfl | ⟨r, c, rfl⟩
  · exact ⟨by decide, by decide⟩
  · unfold foldW
    rw [List.concat_eq_append, List.foldl_append]
    exact u64_bd _
theorem get_list (s : ByteArray) (i : Nat) (h : i < s.size) : s.data.toList[i]'(by rw [len_size]; exact h) = s[i] := by
  simp
  rfl
theorem decT_10 (n : Int) (h1 : -9223372036854775808 ≤ n) (h2 : n ≤ 9223372036854775807) : decT 10 n = Lib.itoa n :=
  decT_int (by decide) (by decide) (by decide) (by show n = IntKind.i64.wrap (IntKind.i64.wrap n); simp only [IntKind.wrap_i64]; omega)
/-- What num tells of a text. -/
def NumOk (l : List UInt8) (n : Int) (ok : Bool) : Prop := (ok = true → Lib.itoa n = l ∧ -9223372036854775808 ≤ n ∧ n ≤ 9223372036854775807) ∧ (ok = false → ∀ m : Int, -9223372036854775808 ≤ m → m ≤ 9223372036854775807 → Lib.itoa m ≠ l)
theorem num_try (l : List UInt8) : NumOk l (tryN l) (Lib.itoa (tryN l) == l) := by
  have hb : -9223372036854775808 ≤ tryN l ∧ tryN l ≤ 9223372036854775807 := wr64 _
  refine ⟨fun h => ⟨by simpa using h, hb⟩, fun h m h1 h2 e => ?_⟩
  rw [← e, tryN_itoa m h1 h2] at h
  simp at h
/-- What the model's reading of a number ends with. -/
def ParEnd (s : ByteArray) (w : World) (e : Ending) (w' : World) : Prop := ∃ n ok, e = .returned (.tuple #[.int .i64 n, .bool ok]) ∧ NumOk s.data.toList n ok ∧ Below w.heap.size w w'
theorem w64_i (n : Int) : wrap64 n = IntKind.i64.wrap n := by rw [IntKind.wrap_i64]; unfold wrap64; rfl
theorem try_eq (s : ByteArray) (l : List UInt8) : ((⟨l.toArray⟩ : ByteArray).toList == s.toList) = (l == s.data.toList) := by
  rw [Lib.toList_data, Lib.toList_data]
end Go.Proofs.YtabefhpgeaihgaaGreatDoor.V
