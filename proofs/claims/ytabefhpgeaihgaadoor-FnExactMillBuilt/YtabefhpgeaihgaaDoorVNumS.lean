import Derived.Test.YtabefhpgeaihgaaDoorVFind
import Derived.Test.YtabefhpgeaihgaaDoorVDecI
/-! num: the model's. Printed by gen_vfind.py. -/
namespace Go.Proofs.YtabefhpgeaihgaaDoor.V
open Go.RowKit Go.Shelf
set_option maxRecDepth 20000
theorem foldW_take (l : List UInt8) (i : Nat) (h : i < l.length) : foldW (l.take (i + 1)) = accW (foldW (l.take i)) l[i] := by
  unfold foldW
  rw [List.take_succ_eq_append_getElem h, List.foldl_append]
  rfl
theorem foldW_bd (l : List UInt8) : 0 ≤ foldW l ∧ foldW l ≤ 18446744073709551615 := by
  rcases List.eq_nil_or_concat l with rfl | ⟨r, c, rfl⟩
  · exact ⟨by decide, by decide⟩
  · unfold foldW
    rw [List.concat_eq_append, List.foldl_append]
    exact u64_bd _
theorem get_list (s : ByteArray) (i : Nat) (h : i < s.size) : s.data.toList[i]'(by rw [len_size]; exact h) = s[i] := by
  simp
  rfl
theorem decT_10 (n : Int) (h1 : -9223372036854775808 ≤ n) (h2 : n ≤ 9223372036854775807) : decT 10 n = Lib.itoa n :=
  decT_int (by decide) (by decide) (by decide) (by show n = IntKind.i64.wrap (IntKind.i64.wrap n); simp only [IntKind.wrap_i64]; omega)
/-- What num tells of a text. -/
def NumOk (l : List UInt8) (n : Int) (ok : Bool) : Prop := (ok = true → Lib.itoa n = l ∧ -9223372036854775808 ≤ n ∧ n ≤ 9223372036854775807) ∧ (ok = false → ∀ m : Int, -9223372036854775808 ≤ m → m ≤ 9223372036854775807 → Lib.itoa m ≠ l)
theorem num_try (l : List UInt8) : NumOk l (tryN l) (Lib.itoa (tryN l) == l) := by
  have hb : -9223372036854775808 ≤ tryN l ∧ tryN l ≤ 9223372036854775807 := wr64 _
  refine ⟨fun h => ⟨by simpa using h, hb⟩, fun h m h1 h2 e => ?_⟩
  rw [← e, tryN_itoa m h1 h2] at h
  simp at h
/-- What the model's reading of a number ends with. -/
def ParEnd (s : ByteArray) (w : World) (e : Ending) (w' : World) : Prop := ∃ n ok, e = .returned (.tuple #[.int .i64 n, .bool ok]) ∧ NumOk s.data.toList n ok ∧ Below w.heap.size w w'
theorem w64_i (n : Int) : wrap64 n = IntKind.i64.wrap n := by rw [IntKind.wrap_i64]; unfold wrap64; rfl
theorem dec_try (s : ByteArray) (x : Int) (hx : wrap64 x = tryN s.data.toList) (V : World) :
    Calls Tryd.prog 16 #[.int .i64 10, .int .i64 (wrap64 x)] V fun e w' => e = .returned (.string ⟨(Lib.itoa (tryN s.data.toList)).toArray⟩) ∧ Below V.heap.size V w' := by
  have hb : -9223372036854775808 ≤ tryN s.data.toList ∧ tryN s.data.toList ≤ 9223372036854775807 := wr64 _
  have := l13Dec_any 10 (tryN s.data.toList) (by decide) (by decide) hb.1 hb.2 V
  rw [decT_10 _ hb.1 hb.2] at this
  rw [hx]
  exact this
theorem try_eq (s : ByteArray) (l : List UInt8) : ((⟨l.toArray⟩ : ByteArray).toList == s.toList) = (l == s.data.toList) := by
  rw [Lib.toList_data, Lib.toList_data]
set_option maxHeartbeats 8000000 in
theorem l13Parse_any (s : ByteArray) (hs : s.size ≤ 3000) (w : World) :
    Calls Tryd.prog 17 #[.string s] w fun e w' => ParEnd s w e w' := by
  by_cases hsz : s.size < 1 ∨ 20 < s.size
  · have HNO : Hid (NumOk s.data.toList 0 false) := ⟨fun h => (by cases h), fun _ m h1 h2 e => (by
      have := itoa_len m h1 h2
      rw [e, len_size] at this
      omega)⟩
    rcases hsz with h | h
    · go_enter Tryd.func17, Tryd.ntmps17
      go_wp2
      exact bodyPost_ret (v := .tuple #[.int .i64 0, .bool false]) (by simp [results, Tryd.results17, go_sem]) rfl ⟨0, false, rfl, HNO.out, Below.refl _ _⟩
    · go_enter Tryd.func17, Tryd.ntmps17
      go_wp2
      exact bodyPost_ret (v := .tuple #[.int .i64 0, .bool false]) (by simp [results, Tryd.results17, go_sem]) rfl ⟨0, false, rfl, HNO.out, Below.refl _ _⟩
  have h1 : 1 ≤ s.size := by omega
  have h20 : s.size ≤ 20 := by omega
  clear hsz
  have h1i : ¬ (s.size : Int) < 1 := by omega
  have h20i : ¬ (20 : Int) < s.size := by omega
  have HT := hid (num_try s.data.toList)
  have HL := hid (len_size s)
  have HU := hid u64_bd
  have HTK : Hid (s.data.toList.take s.size = s.data.toList) := List.take_of_length_le (by rw [len_size]; exact Nat.le_refl _)
  have HSTEP : Hid (∀ (l : List UInt8) (i : Nat) (h : i < l.length), foldW (l.take (i + 1)) = accW (foldW (l.take i)) l[i]) := foldW_take
  go_enter Tryd.func17, Tryd.ntmps17
  go_wp2
  go_loopw [4, 5] (fun a b wr => ∃ (z : Int) (i : Nat), a = .int .u64 z ∧ b = .int .i64 i ∧ 0 ≤ z ∧ z ≤ 18446744073709551615 ∧ i ≤ s.size ∧ z = foldW (s.data.toList.take i) ∧ wr = w) (fun _ b _ => s.size - (intOf b).toNat)
  case atStart => exact ⟨0, 0, rfl, rfl, by decide, by decide, by omega, by simp [foldW], rfl⟩
  case round =>
    obtain ⟨z, i, rfl, rfl, z1, z2, hi, hz, rfl⟩ := hrel
    have HZ := hid hz
    clear hz
    by_cases hlt : i < s.size
    · have HG := hid (get_list s i hlt)
      obtain ⟨c, hc⟩ : ∃ c, s[i] = c := ⟨_, rfl⟩
      have hcb := c.toNat_lt
      have HNX : Hid (accW z c = foldW (s.data.toList.take (i + 1))) := by
        show _ = _
        rw [HSTEP.out s.data.toList i (by rw [len_size]; exact hlt), HG.out, hc, HZ.out]
      go_wp2
      go_roundw
      case rel => exact ⟨_, i + 1, rfl, by go_num, (HU.out _).1, (HU.out _).2, by omega, HNX.out, trivial⟩
      case measure => simp [intOf]; omega
    · obtain rfl : i = s.size := by omega
      rw [HTK.out] at HZ
      have h0s : 0 < s.size := by omega
      obtain ⟨c, hc⟩ : ∃ c, s[0] = c := ⟨_, rfl⟩
      have hcb := c.toNat_lt
      have HHD : Hid (∃ r, s.data.toList = c :: r ∧ r.length + 1 = s.size) := by
        have hg := get_list s 0 h0s
        rw [hc] at hg
        cases hl : s.data.toList with
        | nil => rw [← HL.out, hl] at h0s; simp at h0s
        | cons d r =>
          simp only [hl, List.getElem_cons_zero] at hg
          exact ⟨r, by rw [hg], by rw [← HL.out, hl]; simp⟩
      obtain ⟨r, hr, hrl⟩ := HHD.out
      have HR := hid hr
      have HRL := hid hrl
      clear hr hrl HHD
      by_cases hcm : c = 45
      · subst hcm
        have HGT : Hid (∀ i : Nat, (h : i < s.size) → 1 ≤ i → ∃ hh : i - 1 < r.length, r[i - 1] = s[i]) := fun i h h1 => by
          have hg := get_list s i h
          have hlen : i - 1 < r.length := by have := HRL.out; omega
          refine ⟨hlen, ?_⟩
          rw [← hg]
          simp only [HR.out]
          rw [List.getElem_cons]
          rw [dif_neg (by omega)]
        go_wp2
        go_loopw [4, 6] (fun a b wx => ∃ (z : Int) (i : Nat), a = .int .u64 z ∧ b = .int .i64 i ∧ 0 ≤ z ∧ z ≤ 18446744073709551615 ∧ 1 ≤ i ∧ i ≤ s.size ∧ z = foldW (r.take (i - 1)) ∧ wx = wr) (fun _ b _ => s.size - (intOf b).toNat)
        case atStart => exact ⟨0, 1, rfl, rfl, by decide, by decide, by omega, by omega, by simp [foldW], rfl⟩
        case round =>
          obtain ⟨y, i, rfl, rfl, y1, y2, hi1, hi, hy, rfl⟩ := hrel
          have HY := hid hy
          clear hy
          by_cases hlt : i < s.size
          · obtain ⟨hh, HG⟩ := HGT.out i hlt hi1
            obtain ⟨d, hd⟩ : ∃ d, s[i] = d := ⟨_, rfl⟩
            have hdb := d.toNat_lt
            have HNX : Hid (accW y d = foldW (r.take (i + 1 - 1))) := by
              show _ = _
              rw [show i + 1 - 1 = i - 1 + 1 by omega, HSTEP.out r (i - 1) hh, HG, hd, HY.out]
            clear HG hh
            go_wp2
            go_roundw
            case rel => exact ⟨_, i + 1, rfl, by go_num, (HU.out _).1, (HU.out _).2, by omega, by omega, HNX.out, trivial⟩
            case measure => simp [intOf]; omega
          · have HV : Hid (y = foldW r) := by
              show _ = _
              rw [HY.out, List.take_of_length_le (by have := HRL.out; omega)]
            have HXE : Hid (wrap64 (IntKind.u64.wrap (-y)) = tryN s.data.toList) := by
              show _ = _
              rw [w64_i, HR.out, HV.out]
              rfl
            have HN := hid (dec_try s _ HXE.out)
            go_wp2_with fail
            refine (HN.out _).mono ?_
            rintro e w5 ⟨rfl, hb5⟩
            have HB5 := hid hb5
            clear hb5
            obtain ⟨S, hS⟩ : ∃ S : ByteArray, ⟨(Lib.itoa (tryN s.data.toList)).toArray⟩ = S := ⟨_, rfl⟩
            have HEQ : Hid ((S.toList == s.toList) = (Lib.itoa (tryN s.data.toList) == s.data.toList)) := by rw [← hS]; exact try_eq s _
            rw [hS]
            clear hS
            go_wp2
            exact bodyPost_ret (v := .tuple #[.int .i64 (wrap64 (IntKind.u64.wrap (-y))), .bool (S.toList == s.toList)]) (by simp [results, Tryd.results17, go_sem]) rfl ⟨_, _, rfl, by rw [HXE.out, HEQ.out]; exact HT.out, HB5.out⟩
      · have hcm2 : ¬ ((c.toNat : Int) = 45) := fun h => hcm (UInt8.toNat_inj.1 (by have : (45 : UInt8).toNat = 45 := rfl; omega))
        have HXE : Hid (wrap64 z = tryN s.data.toList) := by
          show _ = _
          rw [w64_i, HZ.out]
          unfold tryN
          rw [HR.out]
          split
          · rename_i q hq
            injection hq with h1 _
            exact absurd h1 hcm
          · rfl
        have HN := hid (dec_try s _ HXE.out)
        go_wp2_with fail
        refine (HN.out _).mono ?_
        rintro e w5 ⟨rfl, hb5⟩
        have HB5 := hid hb5
        clear hb5
        obtain ⟨S, hS⟩ : ∃ S : ByteArray, ⟨(Lib.itoa (tryN s.data.toList)).toArray⟩ = S := ⟨_, rfl⟩
        have HEQ : Hid ((S.toList == s.toList) = (Lib.itoa (tryN s.data.toList) == s.data.toList)) := by rw [← hS]; exact try_eq s _
        rw [hS]
        clear hS
        go_wp2
        exact bodyPost_ret (v := .tuple #[.int .i64 (wrap64 z), .bool (S.toList == s.toList)]) (by simp [results, Tryd.results17, go_sem]) rfl ⟨_, _, rfl, by rw [HXE.out, HEQ.out]; exact HT.out, HB5.out⟩
end Go.Proofs.YtabefhpgeaihgaaDoor.V
