import Derived.Test.YtabefhpgeaihgaaDoorVErr
import Derived.Shelf.Strings.Search3
import Derived.Lib.Index
import Derived.Lib.Strings
/-! find, both sides. Printed by gen_vfind.py. -/
namespace Go.Proofs.YtabefhpgeaihgaaDoor.V
open Go.RowKit Go.Shelf
set_option maxRecDepth 20000
theorem len_size (s : ByteArray) : s.data.toList.length = s.size := by simp
def ix_ren : Go.Shelf.Ren := ⟨fun | 143 => 30 | 217 => 47 | 219 => 39 | 224 => 49 | 225 => 48 | 266 => 62 | 267 => 50 | 314 => 63 | n => n, fun | 3 => 3 | 4 => 4 | 5 => 5 | 9 => 9 | 46 => 68 | 51 => 83 | 146 => 88 | n => n, fun | 1 => 4 | n => n⟩
theorem ix_lays : Go.Proofs.Lays.n143 Tryd.prog ix_ren where
  mixed := by kernel_rfl
  f143 := Tryd.func30.trans (congrArg some (by kernel_rfl))
  f217 := Tryd.func47.trans (congrArg some (by kernel_rfl))
  f219 := Tryd.func39.trans (congrArg some (by kernel_rfl))
  f224 := Tryd.func49.trans (congrArg some (by kernel_rfl))
  f225 := Tryd.func48.trans (congrArg some (by kernel_rfl))
  f266 := Tryd.func62.trans (congrArg some (by kernel_rfl))
  f267 := Tryd.func50.trans (congrArg some (by kernel_rfl))
  f314 := Tryd.func63.trans (congrArg some (by kernel_rfl))
  t3 := Tryd.underlying3
  a3 := Tryd.isAgg3
  z3 := Tryd.sizeOf3
  v3 := Tryd.zeroValue3
  t4 := Tryd.underlying4
  a4 := Tryd.isAgg4
  z4 := Tryd.sizeOf4
  v4 := Tryd.zeroValue4
  t5 := Tryd.underlying5
  a5 := Tryd.isAgg5
  z5 := Tryd.sizeOf5
  v5 := Tryd.zeroValue5
  t9 := Tryd.underlying9
  a9 := Tryd.isAgg9
  z9 := Tryd.sizeOf9
  v9 := Tryd.zeroValue9
  t46 := Tryd.underlying68
  a46 := Tryd.isAgg68
  z46 := Tryd.sizeOf68
  v46 := Tryd.zeroValue68
  t51 := Tryd.underlying83
  a51 := Tryd.isAgg83
  z51 := Tryd.sizeOf83
  v51 := Tryd.zeroValue83
  t146 := Tryd.underlying88
  a146 := Tryd.isAgg88
  z146 := Tryd.sizeOf88
  v146 := Tryd.zeroValue88
  g1 := by kernel_rfl
theorem index_any (s x : ByteArray) (m : Int) (hs : s.size ≤ 3000) (w : World) (hm : w.cell? ⟨4, 0, none⟩ = some (.int .i64 m)) :
    Calls Tryd.prog 30 #[.string s, .string x] w fun e w' => e = .returned (.int .i64 (Lib.index s.data.toList x.data.toList)) ∧ w' = w :=
  Go.Proofs.Any.strings_Index ix_lays s x m w (by omega) hm
theorem occ_ex (s x : ByteArray) (i : Nat) (h : i + x.size ≤ s.size) : ((s.extract i (i + x.size)).toList == x.toList) = Lib.occAt s.data.toList x.data.toList i := by
  rw [Lib.occAt_iff_take _ _ _ (by rw [len_size, len_size]; exact h), Lib.extract_toList, Lib.toList_data, len_size, Nat.add_sub_cancel_left]
set_option maxHeartbeats 4000000 in
theorem l13Find_any (s x : ByteArray) (hs : s.size ≤ 3000) (hx : x.size ≤ 3000) (w : World) :
    Calls Tryd.prog 14 #[.string s, .string x] w fun e w' => e = .returned (.int .i64 (Lib.index s.data.toList x.data.toList)) ∧ w' = w := by
  have HF : Hid (∀ i : Nat, i + x.size ≤ s.size → Lib.occAt s.data.toList x.data.toList i = true → (∀ j, j < i → Lib.occAt s.data.toList x.data.toList j = false) → Lib.index s.data.toList x.data.toList = i) := fun i h1 h2 h3 => Lib.index_first (by rw [len_size]; omega) h2 h3
  have HN : Hid (∀ i : Nat, s.size < i + x.size → (∀ j, j < i → Lib.occAt s.data.toList x.data.toList j = false) → Lib.index s.data.toList x.data.toList = -1) := fun i h1 h2 => by
    refine Lib.index_none fun j _ => ?_
    by_cases hj : j < i
    · exact h2 j hj
    · cases ho : Lib.occAt s.data.toList x.data.toList j with
      | false => rfl
      | true =>
        rcases Lib.occAt_room ho with h | h
        · rw [len_size, len_size] at h; omega
        · have : x.size = 0 := by rw [← len_size, h]; rfl
          have h0 := h2 s.size (by omega)
          rw [show x.data.toList = [] from h] at h0
          simp [Lib.occAt] at h0
  have HO := hid (occ_ex s x)
  go_enter Tryd.func14, Tryd.ntmps14
  go_wp2
  go_loopw [5] (fun a wr => ∃ i : Nat, a = .int .i64 i ∧ i ≤ s.size + 1 ∧ (∀ j, j < i → Lib.occAt s.data.toList x.data.toList j = false) ∧ wr = w) (fun a _ => s.size + 2 - (intOf a).toNat)
  case atStart => exact ⟨0, rfl, by omega, fun j hj => by omega, rfl⟩
  case round =>
    obtain ⟨i, rfl, hi, hno, rfl⟩ := hrel
    have HNO := hid hno
    clear hno
    by_cases hlt : i + x.size ≤ s.size
    · have hlti : (i : Int) + x.size ≤ s.size := by omega
      have HOI := hid (HO.out i hlt)
      cases hoc : Lib.occAt s.data.toList x.data.toList i with
      | true =>
        have e1 : ((s.extract i (i + x.size)).toList == x.toList) = true := HOI.out.trans hoc
        have HV := hid (HF.out i hlt hoc HNO.out)
        clear hoc
        go_wp2
        go_ret
        exact ⟨congrArg (fun z => Ending.returned (.int .i64 z)) HV.out.symm, rfl⟩
      | false =>
        have e1 : ((s.extract i (i + x.size)).toList == x.toList) = false := HOI.out.trans hoc
        have HNX : Hid (∀ j, j < i + 1 → Lib.occAt s.data.toList x.data.toList j = false) := fun j hj => by
          by_cases hji : j = i
          · rw [hji]; exact hoc
          · exact HNO.out j (by omega)
        clear hoc
        go_wp2
        go_roundw
        case rel => exact ⟨i + 1, by go_num, by omega, HNX.out, trivial⟩
        case measure => simp [intOf]; omega
    · have HV := hid (HN.out i (by omega) HNO.out)
      have hlti : ¬ (i : Int) + x.size ≤ s.size := by omega
      go_wp2
      go_ret
      exact ⟨congrArg (fun z => Ending.returned (.int .i64 z)) HV.out.symm, rfl⟩
end Go.Proofs.YtabefhpgeaihgaaDoor.V
