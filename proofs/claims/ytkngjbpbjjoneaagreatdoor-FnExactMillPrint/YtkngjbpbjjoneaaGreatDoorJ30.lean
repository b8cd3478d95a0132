import Derived.Test.YtkngjbpbjjoneaaGreatDoorJ27
/-! Writing texts, as they are and in quotes. -/
namespace Go.Proofs.YtkngjbpbjjoneaaGreatDoor.Q
open Go.RowKit Go.Shelf
set_option maxRecDepth 20000
def catL (ts : List ByteArray) : List UInt8 := (ts.map fun t => t.data.toList).flatten
theorem catL_take_succ (ts : List ByteArray) (q : Nat) (h : q < ts.length) : catL (ts.take (q + 1)) = catL (ts.take q) ++ ts[q].data.toList := by
  unfold catL
  rw [List.take_succ_eq_append_getElem h, List.map_append, List.flatten_append]
  simp only [List.map_cons, List.map_nil, List.flatten_cons, List.flatten_nil, List.append_nil]
theorem catL_take_le (ts : List ByteArray) (q : Nat) : (catL (ts.take q)).length ≤ (catL ts).length := by
  have : catL ts = catL (ts.take q) ++ catL (ts.drop q) := by
    unfold catL
    rw [← List.flatten_append, ← List.map_append, List.take_append_drop]
  rw [this, List.length_append]; omega
set_option maxHeartbeats 1000000 in
theorem puts_any (B b : Nat) (xw : Value) (k cap : Nat) (l : List UInt8) (ts : List ByteArray) (n : Nat) (w : World) (hn : ts.length = n) (hn2 : n ≤ 1000) (h : WrAt B b xw l w) (hlen : l.length + (catL ts).length ≤ 1000000000000) (hkb : k ≠ b) (hk : NotB w k) (hks : k < w.heap.size) (hc : ∀ i (h : i < ts.length), w.cell? ⟨k, i, none⟩ = some (.string ts[i])) :
    Calls Tryz.prog 30 #[.pointer (some ⟨b, 0, none⟩), .slice (some ⟨k, 0, none⟩) n cap] w fun e w' => e = .returned (.tuple #[]) ∧ WrAt B b xw (l ++ catL ts) w' ∧ Wk B b w w' := by
  have HW := hid h
  have HL := hid hlen
  have HN := hid hn
  have HC : Hid (∀ W q (h : q < ts.length), Wk B b w W → W.cell? ⟨k, q, none⟩ = some (.string ts[q])) := fun W q h hW => (hW.cell (p := ⟨k, q, none⟩) hks hkb (.inr hk)).trans (hc q h)
  clear h hlen hn hkb hk hks hc
  go_enter Tryz.func30, Tryz.ntmps30
  go_wp2
  go_loopw [8] (fun a wr => ∃ q : Nat, q ≤ n ∧ a = .int .i64 q ∧ WrAt B b xw (l ++ catL (ts.take q)) wr ∧ Wk B b w wr) (fun a _ => n - (intOf a).toNat)
  case atStart => exact ⟨0, Nat.zero_le _, rfl, by simpa [catL] using HW.out, Wk.refl _ _ _⟩
  case round =>
    obtain ⟨q, hq, rfl, hw, hwk⟩ := hrel
    have HWR := hid hw
    have HWK := hid hwk
    clear hw hwk
    by_cases hlt : q < n
    · have hqs : q < ts.length := by rw [HN.out]; exact hlt
      have c0 := HC.out wr q hqs HWK.out
      have HT := hid (catL_take_succ ts q hqs)
      have HX : Hid ((l ++ catL (ts.take q)).length + ts[q].size ≤ 1000000000000) := by
        show _ ≤ _
        have h1 := catL_take_le ts (q + 1)
        rw [HT.out, List.length_append, len_size] at h1
        have := HL.out
        rw [List.length_append]
        omega
      obtain ⟨tx, htx⟩ : ∃ tx, ts[q] = tx := ⟨_, rfl⟩
      rw [htx] at c0 HX HT
      clear htx
      go_wp2_with fail
      refine (writeString_any B b xw _ tx _ HWR.out HX.out).mono ?_
      rintro e w1 ⟨rfl, hw1, hk1⟩
      have HW1 := hid hw1
      have HK1 := hid (HWK.out.trans hk1)
      clear hw1 hk1
      go_wp2
      go_roundw
      case rel => exact ⟨q + 1, by omega, by go_num, by rw [HT.out, ← List.append_assoc]; exact HW1.out, HK1.out⟩
      case measure => simp [intOf]; omega
    · obtain rfl : q = n := by omega
      have HTA : Hid (ts.take q = ts) := List.take_of_length_le (by rw [HN.out]; exact Nat.le_refl _)
      go_wp2
      go_end0
      rw [HTA.out] at HWR
      exact ⟨rfl, HWR.out, HWK.out⟩
theorem put1 (B b : Nat) (xw : Value) (l : List UInt8) (s : ByteArray) (W : World) (h : WrAt B b xw l W) (hlen : l.length + s.size ≤ 1000000000000) :
    Calls Tryz.prog 30 #[.pointer (some ⟨b, 0, none⟩), .slice (some ⟨W.heap.size, 0, none⟩) 1 1] (W.alloc (.cells #[.string s] 9)) fun e w' => e = .returned (.tuple #[]) ∧ WrAt B b xw (l ++ s.data.toList) w' ∧ Wk B b W w' := by
  have hb0 := (Below.refl W.heap.size W).alloc (Nat.le_refl _) (.cells #[.string s] 9)
  have hlt := h.lt
  have e : catL [s] = s.data.toList := by simp [catL]
  refine (puts_any B b xw W.heap.size 1 l [s] 1 _ rfl (by omega) (h.next hb0) (by rw [e, len_size]; exact hlen) (by omega) (NotB.of (heap_alloc_new W _) (by decide)) (by simp) (fun i hi => ?_)).mono ?_
  · obtain rfl : i = 0 := by simp at hi; omega
    rw [cell_new_row]; rfl
  · rintro e' w' ⟨h1, h2, h3⟩
    rw [e] at h2
    exact ⟨h1, h2, (Wk.of_below hb0).trans h3⟩
theorem put3 (B b : Nat) (xw : Value) (l : List UInt8) (s1 s2 s3 : ByteArray) (W : World) (h : WrAt B b xw l W) (hlen : l.length + (s1.size + s2.size + s3.size) ≤ 1000000000000) :
    Calls Tryz.prog 30 #[.pointer (some ⟨b, 0, none⟩), .slice (some ⟨W.heap.size, 0, none⟩) 3 3] (W.alloc (.cells #[.string s1, .string s2, .string s3] 9)) fun e w' => e = .returned (.tuple #[]) ∧ WrAt B b xw (l ++ (s1.data.toList ++ s2.data.toList ++ s3.data.toList)) w' ∧ Wk B b W w' := by
  have hb0 := (Below.refl W.heap.size W).alloc (Nat.le_refl _) (.cells #[.string s1, .string s2, .string s3] 9)
  have hlt := h.lt
  have e : catL [s1, s2, s3] = s1.data.toList ++ s2.data.toList ++ s3.data.toList := by simp [catL]
  refine (puts_any B b xw W.heap.size 3 l [s1, s2, s3] 3 _ rfl (by omega) (h.next hb0) (by rw [e, List.length_append, List.length_append, len_size, len_size, len_size]; exact hlen) (by omega) (NotB.of (heap_alloc_new W _) (by decide)) (by simp) (fun i hi => ?_)).mono ?_
  · have hi2 : i = 0 ∨ i = 1 ∨ i = 2 := by simp at hi; omega
    rw [cell_new_row]
    rcases hi2 with rfl | rfl | rfl <;> rfl
  · rintro e' w' ⟨h1, h2, h3⟩
    rw [e] at h2
    exact ⟨h1, h2, (Wk.of_below hb0).trans h3⟩
theorem and15 : ∀ n : Nat, n < 2 ^ 8 → bits .and .u8 (n : Int) 15 = ((n % 16 : Nat) : Int) := by decide +kernel
def digS : ByteArray := ⟨#[48, 49, 50, 51, 52, 53, 54, 55, 56, 57, 97, 98, 99, 100, 101, 102]⟩
theorem dig_at : ∀ A : Nat, A < 16 → (⟨#[48, 49, 50, 51, 52, 53, 54, 55, 56, 57, 97, 98, 99, 100, 101, 102]⟩ : ByteArray).extract A (A + 1) = ⟨#[hexd A]⟩ := by decide +kernel
set_option maxHeartbeats 2000000 in
theorem quoted_any (B b : Nat) (xw : Value) (l : List UInt8) (s : ByteArray) (w : World) (h : WrAt B b xw l w) (hs : s.size ≤ 2000000) (hlen : l.length + (3 * s.size + 2) ≤ 1000000000000) :
    Calls Tryz.prog 77 #[.pointer (some ⟨b, 0, none⟩), .string s] w fun e w' => e = .returned (.tuple #[]) ∧ WrAt B b xw (l ++ quoteL s.data.toList) w' ∧ Wk B b w w' := by
  have HW := hid h
  have HL := hid hlen
  clear h hlen
  go_enter Tryz.func77, Tryz.ntmps77
  go_wp2_with fail
  refine (put1 B b xw l ⟨#[34]⟩ w HW.out (by have := HL.out; show l.length + 1 ≤ _; omega)).mono ?_
  rintro e w1 ⟨rfl, hw1, hk1⟩
  have HW1 := hid hw1
  have HK1 := hid hk1
  clear hw1 hk1
  go_wp2
  go_loopw [11] (fun a wr => ∃ q : Nat, q ≤ s.size ∧ a = .int .i64 q ∧ WrAt B b xw (l ++ [34] ++ (s.data.toList.take q).flatMap quoteB) wr ∧ Wk B b w wr) (fun a _ => s.size - (intOf a).toNat)
  case atStart => exact ⟨0, Nat.zero_le _, rfl, by simpa using HW1.out, HK1.out⟩
  case round =>
    obtain ⟨q, hq, rfl, hw, hwk⟩ := hrel
    have HWR := hid hw
    have HWK := hid hwk
    have HF : Hid ((l ++ [34] ++ (s.data.toList.take q).flatMap quoteB).length ≤ l.length + 1 + 3 * q) := by
      show _ ≤ _
      have : ∀ t : List UInt8, (t.flatMap quoteB).length ≤ 3 * t.length := fun t => by
        induction t with
        | nil => simp
        | cons a t ih => have := quoteB_len a; simp only [List.flatMap_cons, List.length_append, List.length_cons]; omega
      have h2 := this (s.data.toList.take q)
      rw [List.length_take] at h2
      simp only [List.length_append, List.length_cons, List.length_nil]
      omega
    clear hw hwk
    by_cases hlt : q < s.size
    · have HT := hid (quote_take_succ s q hlt)
      obtain ⟨c, hc⟩ : ∃ c, s[q] = c := ⟨_, rfl⟩
      have hcb := c.toNat_lt
      rw [hc] at HT
      by_cases hp : 32 ≤ c.toNat ∧ c.toNat ≤ 126 ∧ c.toNat ≠ 34 ∧ c.toNat ≠ 92
      · have HE : Hid (quoteB c = [c]) := if_pos hp
        have g1 : (32 : Int) ≤ c.toNat := by omega
        have g2 : (c.toNat : Int) ≤ 126 := by omega
        have g3 : ((c.toNat : Int) == 34) = false := by simp; omega
        have g4 : ((c.toNat : Int) == 92) = false := by simp; omega
        clear hp
        go_wp2_with fail
        refine (writeByte_any B b xw _ c _ HWR.out (by have := HF.out; have := HL.out; omega)).mono ?_
        rintro e w2 ⟨rfl, hw2, hk2⟩
        have HW2 := hid hw2
        have HK2 := hid (HWK.out.trans hk2)
        clear hw2 hk2
        go_wp2
        go_roundw
        case rel => exact ⟨q + 1, by omega, by go_num, by rw [HT.out, HE.out, ← List.append_assoc]; exact HW2.out, HK2.out⟩
        case measure => simp [intOf]; omega
      · have HE : Hid (quoteB c = [92, hexd (c.toNat / 16), hexd (c.toNat % 16)]) := if_neg hp
        have hcase : c.toNat < 32 ∨ (32 ≤ c.toNat ∧ 126 < c.toNat) ∨ (32 ≤ c.toNat ∧ c.toNat ≤ 126 ∧ c.toNat = 34) ∨ (32 ≤ c.toNat ∧ c.toNat ≤ 126 ∧ c.toNat = 92) := by omega
        clear hp
        have hX : (c.toNat : Int) / 16 = ((c.toNat / 16 : Nat) : Int) := by omega
        have hY := and15 c.toNat hcb
        obtain ⟨A, hA⟩ : ∃ A, c.toNat / 16 = A := ⟨_, rfl⟩
        obtain ⟨D, hD⟩ : ∃ D, c.toNat % 16 = D := ⟨_, rfl⟩
        rw [hA] at hX HE
        rw [hD] at hY HE
        have hA16 : A < 16 := by omega
        have hD16 : D < 16 := by omega
        have HSA := hid (dig_at A hA16)
        have HSD := hid (dig_at D hD16)
        have a1 : (0 : Int) ≤ (A : Int) + 1 := by omega
        have a2 : (A : Int) + 1 ≤ 16 := by omega
        have a3 : IntKind.u8.wrap ((A : Int) + 1) = (A : Int) + 1 := by rw [IntKind.wrap_u8]; omega
        have d1 : (0 : Int) ≤ (D : Int) + 1 := by omega
        have d2 : (D : Int) + 1 ≤ 16 := by omega
        have d3 : IntKind.u8.wrap ((D : Int) + 1) = (D : Int) + 1 := by rw [IntKind.wrap_u8]; omega
        have HWD : Hid (WrAt B b xw (l ++ [34] ++ (s.data.toList.take q).flatMap quoteB) wr.drew) := HWR.out.next (Below.refl _ _).drew
        have HLE : Hid ((l ++ [34] ++ (s.data.toList.take q).flatMap quoteB).length + 3 ≤ 1000000000000) := by
          show _ ≤ _
          have := HF.out; have := HL.out; omega
        clear hA hD hA16 hD16
        rcases hcase with h1 | ⟨h1, h2⟩ | ⟨h1, h2, h3⟩ | ⟨h1, h2, h3⟩
        · have g1 : (c.toNat : Int) < 32 := by omega
          clear h1
          go_wp2_with fail
          go_region_with (go_at_call 30; refine (put3 B b xw _ ⟨#[92]⟩ _ _ wr.drew HWD.out (by rw [HSA.out, HSD.out]; exact HLE.out)).mono ?_; rintro e w2 ⟨rfl, hw2, hk2⟩; rw [HSA.out, HSD.out] at hw2; have HW2 := hid hw2; have HK2 := hid (HWK.out.trans ((Wk.of_below (Below.refl _ _).drew).trans hk2)); clear hw2 hk2)
          all_goals
            go_wp2
            go_roundw
            case rel => exact ⟨q + 1, by omega, by go_num, by rw [HT.out, HE.out, ← List.append_assoc]; exact HW2.out, HK2.out⟩
            case measure => simp [intOf]; omega
        · have g1 : (32 : Int) ≤ c.toNat := by omega
          have g2 : (126 : Int) < c.toNat := by omega
          clear h1 h2
          go_wp2_with fail
          go_region_with (go_at_call 30; refine (put3 B b xw _ ⟨#[92]⟩ _ _ wr.drew HWD.out (by rw [HSA.out, HSD.out]; exact HLE.out)).mono ?_; rintro e w2 ⟨rfl, hw2, hk2⟩; rw [HSA.out, HSD.out] at hw2; have HW2 := hid hw2; have HK2 := hid (HWK.out.trans ((Wk.of_below (Below.refl _ _).drew).trans hk2)); clear hw2 hk2)
          all_goals
            go_wp2
            go_roundw
            case rel => exact ⟨q + 1, by omega, by go_num, by rw [HT.out, HE.out, ← List.append_assoc]; exact HW2.out, HK2.out⟩
            case measure => simp [intOf]; omega
        · have g1 : (32 : Int) ≤ c.toNat := by omega
          have g2 : (c.toNat : Int) ≤ 126 := by omega
          have g3 : ((c.toNat : Int) == 34) = true := by simp; omega
          clear h1 h2 h3
          go_wp2_with fail
          go_region_with (go_at_call 30; refine (put3 B b xw _ ⟨#[92]⟩ _ _ wr.drew HWD.out (by rw [HSA.out, HSD.out]; exact HLE.out)).mono ?_; rintro e w2 ⟨rfl, hw2, hk2⟩; rw [HSA.out, HSD.out] at hw2; have HW2 := hid hw2; have HK2 := hid (HWK.out.trans ((Wk.of_below (Below.refl _ _).drew).trans hk2)); clear hw2 hk2)
          all_goals
            go_wp2
            go_roundw
            case rel => exact ⟨q + 1, by omega, by go_num, by rw [HT.out, HE.out, ← List.append_assoc]; exact HW2.out, HK2.out⟩
            case measure => simp [intOf]; omega
        · have g1 : (32 : Int) ≤ c.toNat := by omega
          have g2 : (c.toNat : Int) ≤ 126 := by omega
          have g3 : ((c.toNat : Int) == 34) = false := by simp; omega
          have g4 : ((c.toNat : Int) == 92) = true := by simp; omega
          clear h1 h2 h3
          go_wp2_with fail
          go_region_with (go_at_call 30; refine (put3 B b xw _ ⟨#[92]⟩ _ _ wr.drew HWD.out (by rw [HSA.out, HSD.out]; exact HLE.out)).mono ?_; rintro e w2 ⟨rfl, hw2, hk2⟩; rw [HSA.out, HSD.out] at hw2; have HW2 := hid hw2; have HK2 := hid (HWK.out.trans ((Wk.of_below (Below.refl _ _).drew).trans hk2)); clear hw2 hk2)
          all_goals
            go_wp2
            go_roundw
            case rel => exact ⟨q + 1, by omega, by go_num, by rw [HT.out, HE.out, ← List.append_assoc]; exact HW2.out, HK2.out⟩
            case measure => simp [intOf]; omega
    · obtain rfl : q = s.size := by omega
      have HTA : Hid (s.data.toList.take s.size = s.data.toList) := List.take_of_length_le (by rw [len_size]; exact Nat.le_refl _)
      go_wp2_with fail
      refine (put1 B b xw _ ⟨#[34]⟩ _ HWR.out (by have := HL.out; have := HF.out; show _ + 1 ≤ _; omega)).mono ?_
      rintro e w3 ⟨rfl, hw3, hk3⟩
      have HW3 := hid hw3
      have HK3 := hid (HWK.out.trans hk3)
      clear hw3 hk3
      go_wp2
      go_end0
      rw [HTA.out] at HW3
      have e : l ++ quoteL s.data.toList = l ++ [34] ++ List.flatMap quoteB s.data.toList ++ (⟨#[34]⟩ : ByteArray).data.toList := by simp [quoteL]
      rw [e]
      exact ⟨rfl, HW3.out, HK3.out⟩
end Go.Proofs.YtkngjbpbjjoneaaGreatDoor.Q
