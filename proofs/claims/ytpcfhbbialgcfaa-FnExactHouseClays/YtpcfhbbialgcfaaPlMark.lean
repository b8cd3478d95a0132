import Derived.Test.YtpcfhbbialgcfaaPlPutF
/-! Files that are marked, and marks that are held. -/
namespace Go.Proofs.Ytpcfhbbialgcfaa.P
open Go.RowKit
open Go.Proofs.Ytpcfhbbialgcfaa.R (hid Fl fl0 lt_hp hp_next B1 row_cell row_room set_at set_other)
/-- The decimal digits, the last one last; by fuel. -/
def decF : Nat → Nat → List UInt8 → List UInt8
  | 0, _, acc => acc
  | f + 1, k, acc => if k = 0 then acc else decF f (k / 10) ((48 + k % 10).toUInt8 :: acc)
def mtxt (k : Nat) : ByteArray := ⟨(109 :: decF k k []).toArray⟩
theorem conv_one (W : World) (d : Int) (b : UInt8) (hd : (b.toNat : Int) = d) : (convert 79 9 (.slice (some ⟨W.heap.size, 0, none⟩) 1 1)).run Try.prog (W.alloc (.cells #[.int .u8 d] 5)) = .ok (.string ⟨[b].toArray⟩) (W.alloc (.cells #[.int .u8 d] 5)) := by
  refine run_convert_bytes_back (W.alloc (.cells #[.int .u8 d] 5)) 79 9 5 ⟨W.heap.size, 0, none⟩ 1 [b] Try.underlying79 Try.underlying5 Try.underlying9 ?_
  intro j hj
  obtain rfl : j = 0 := by simpa using hj
  have h := row_cell (heap_alloc_new W (.cells #[.int .u8 d] 5)) 0
  subst hd
  exact h
theorem cons_bytes (b : UInt8) (acc : List UInt8) : ((⟨#[b]⟩ : ByteArray) ++ ⟨acc.toArray⟩) = ⟨(b :: acc).toArray⟩ := by
  apply ByteArray.ext
  rw [ByteArray.data_append]
  simp
theorem digit_byte (j : Nat) : (((48 + j % 10).toUInt8).toNat : Int) = 48 + (j : Int) % 10 := by
  have h : (48 + j % 10) < 256 := by omega
  simp [Nat.mod_eq_of_lt h]
theorem ret_int {k : IntKind} {a b : Int} (h : a = b) : Ending.returned (.int k a) = .returned (.int k b) := by rw [h]
set_option maxRecDepth 20000 in
set_option maxHeartbeats 100000000 in
theorem markText_any (k : Nat) (w : World) (h0 : 0 < k) (h1 : k ≤ 10000000) :
    Calls Try.prog 43 #[.int .i64 k] w fun e w' => e = .returned (.string (mtxt k)) ∧ Below w.heap.size w w' := by
  go_enter Try.func43, Try.ntmps43
  go_wp2
  go_loopw [0, 3] (fun i o wr => ∃ (j f : Nat) (acc : List UInt8), i = .int .i64 j ∧ j ≤ f ∧ acc.length + j ≤ k ∧ o = .string ⟨acc.toArray⟩ ∧ Below w.heap.size w wr ∧ decF f j acc = decF k k []) (fun i _ _ => (intOf i).toNat)
  case atStart => exact ⟨k, k, [], rfl, Nat.le_refl _, by simp, rfl, Below.refl _ _, rfl⟩
  case round =>
    obtain ⟨j, f, acc, rfl, hf, hj, rfl, hb, hd⟩ := hrel
    have HD := hid hd
    have HB := hid hb
    clear hd hb
    have hal : acc.length ≤ 10000000 := by omega
    by_cases hj0 : 0 < j
    · obtain ⟨f, rfl⟩ : ∃ f', f = f' + 1 := ⟨f - 1, by omega⟩
      have hconv := conv_one wr (48 + (j : Int) % 10) (48 + j % 10).toUInt8 (digit_byte j)
      have NX : Hid (decF f (j / 10) ((48 + j % 10).toUInt8 :: acc) = decF k k []) := by
        show _ = _; rw [← HD.out]; simp only [decF]; rw [if_neg (by omega)]
      generalize (48 + j % 10).toUInt8 = b at *
      go_wp2
      go_roundw
      case rel => exact ⟨j / 10, f, b :: acc, by go_num, by omega, by simp; omega, by rw [cons_bytes], HB.out.alloc HB.out.size _, NX.out⟩
      case measure => simp [intOf]; omega
    · have HE : Hid (decF k k [] = acc) := by
        show _ = _; rw [← HD.out]
        obtain rfl : j = 0 := by omega
        cases f <;> rfl
      go_wp2
      go_ret
      exact ⟨by unfold mtxt; rw [HE.out, ← cons_bytes]; rfl, HB.out⟩
theorem markText_int (a : Int) (k : Nat) (w : World) (he : a = k) (h0 : 0 < k) (h1 : k ≤ 10000000) :
    Calls Try.prog 43 #[.int .i64 a] w fun e w' => e = .returned (.string (mtxt k)) ∧ Below w.heap.size w w' := by
  subst he
  exact markText_any k w h0 h1
theorem grown_setM {w wr : World} {g : Nat} (h : w.grownBy wr (some g)) (i : Nat) (v : Value) : w.grownBy (wr.setCell ⟨g, i, none⟩ v) (some g) :=
  ⟨h.os, h.tape, h.output, Nat.le_trans h.size (R.below_set (Below.refl 0 wr) g i (Nat.zero_le _) v).size, fun k hk hne => (Below.heap_setCell wr ⟨g, i, none⟩ v k (fun e => hne (by rw [e]))).trans (h.block k hk hne)⟩
theorem grown_next {w wr w1 : World} {g : Nat} (h : w.grownBy wr (some g)) (hb : Below wr.heap.size wr w1) : w.grownBy w1 (some g) :=
  ⟨hb.os.trans h.os, hb.tape.trans h.tape, hb.output.trans h.output, Nat.le_trans h.size hb.size, fun k hk hne => (hb.block k (Nat.lt_of_lt_of_le hk h.size)).trans (h.block k hk hne)⟩
/-- Two stores in a row's place j, the others as they were. -/
theorem set_two (cu : Array Value) (j : Nat) (a b : Value) (h : j * 2 + 1 < cu.size) :
    let r := (cu.setIfInBounds (j * 2) a).setIfInBounds (j * 2 + 1) b
    r.size = cu.size ∧ r[j * 2]? = some a ∧ r[j * 2 + 1]? = some b ∧ ∀ i, i < j * 2 → r[i]? = cu[i]? := by
  intro r
  have h0 : j * 2 < cu.size := by omega
  refine ⟨by simp [r], ?_, ?_, fun i hi => ?_⟩
  · simp [r, h0]
  · simp [r, h]
  · have e0 : ¬ j * 2 = i := by omega
    have e1 : ¬ j * 2 + 1 = i := by omega
    simp [r, e0, e1]
theorem has_cell {W : World} {g : Nat} {cu : Array Value} {t : TypeId} (h : W.heap[g]? = some (.cells cu t (0, 0))) {i : Nat} (hi : i < cu.size) : ∃ v, W.cell? ⟨g, i, none⟩ = some v := ⟨_, (row_cell h i).trans (Array.getElem?_eq_getElem hi)⟩
def Marked (K n : Nat) (cur : Array Value) : Prop := ∀ i, i < n → cur[i * 2]? = some (.string (mtxt (K + 2 * i))) ∧ cur[i * 2 + 1]? = some (.string (mtxt (K + 2 * i + 1)))
set_option maxRecDepth 20000 in
set_option maxHeartbeats 4000000 in
theorem markF_any (g n cap K : Nat) (w : World) (hn : n ≤ 1048576) (hK : 0 < K) (hK2 : K ≤ 5000000) (cur : Array Value) (hg : w.heap[g]? = some (.cells cur 45 (0, 0))) (hsz : n * 2 ≤ cur.size) :
    Calls Try.prog 26 #[.slice (some ⟨g, 0, none⟩) n cap, .int .i64 K] w fun e w' => e = .returned (.int .i64 (K + 2 * n : Nat)) ∧ w.grownBy w' (some g) ∧ ∃ cur', w'.heap[g]? = some (.cells cur' 45 (0, 0)) ∧ cur'.size = cur.size ∧ Marked K n cur' := by
  have HG0 := hid hg
  clear hg
  go_enter Try.func26, Try.ntmps26
  go_wp2
  go_loopw [1, 5] (fun k i wr => ∃ (j : Nat) (cu : Array Value), i = .int .i64 j ∧ k = .int .i64 (K + 2 * j : Nat) ∧ j ≤ n ∧ w.grownBy wr (some g) ∧ wr.heap[g]? = some (.cells cu 45 (0, 0)) ∧ cu.size = cur.size ∧ Marked K j cu) (fun _ i _ => n - (intOf i).toNat)
  case atStart => exact ⟨0, cur, rfl, rfl, Nat.zero_le _, ⟨rfl, rfl, rfl, Nat.le_refl _, fun _ _ _ => rfl⟩, HG0.out, rfl, fun i h => absurd h (Nat.not_lt_zero _)⟩
  case round =>
    obtain ⟨j, cu, rfl, rfl, hj, hgw, hh, hcs, hall⟩ := hrel
    have HG := hid hgw
    have HH := hid hh
    have HALL := hid hall
    have HCS := hid hcs
    clear hgw hall hcs hh
    by_cases hlt : j < n
    · have hsz2 : Hid (j * 2 + 1 < cu.size) := hid (by rw [HCS.out]; omega)
      go_wp2_with (first
        | (go_at_call 43; refine (markText_int _ (K + 2 * j) _ (by omega) (by omega) (by omega)).mono ?_; rintro e w1 ⟨rfl, hb1⟩; have HB1 := hid hb1; have HW1 := hid (hp_next HH.out hb1); have f1 := frozen_hp HW1.out (j * 2); obtain ⟨v1, x1⟩ := has_cell (i := j * 2) HW1.out (by have := hsz2.out; omega); clear hb1)
        | (go_at_call 43; refine (markText_int _ (K + 2 * j + 1) _ (by omega) (by omega) (by omega)).mono ?_; rintro e w2 ⟨rfl, hb2⟩; have HB2 := hid hb2; have HW2 := hid (hp_next (set_at (i := j * 2) (.string (mtxt (K + 2 * j))) HW1.out) hb2); have f2 := frozen_hp HW2.out (j * 2 + 1); obtain ⟨v2, x2⟩ := has_cell (i := j * 2 + 1) HW2.out (by rw [Array.size_setIfInBounds]; exact hsz2.out); clear hb2))
      have HF := hid (set_at (i := j * 2 + 1) (.string (mtxt (K + 2 * j + 1))) HW2.out)
      have HGR := hid (grown_setM (grown_next (grown_setM (grown_next HG.out HB1.out) (j * 2) (.string (mtxt (K + 2 * j)))) HB2.out) (j * 2 + 1) (.string (mtxt (K + 2 * j + 1))))
      have H4 := hid (set_two cu j (.string (mtxt (K + 2 * j))) (.string (mtxt (K + 2 * j + 1))) hsz2.out)
      go_roundw
      case rel =>
        refine ⟨j + 1, _, by go_num, by go_num, by omega, HGR.out, HF.out, (H4.out.1).trans HCS.out, fun i hi => ?_⟩
        rcases Nat.lt_or_eq_of_le (Nat.lt_succ_iff.1 hi) with h | h
        · have h5 := H4.out.2.2.2
          have h6 := HALL.out i h
          exact ⟨(h5 _ (by omega)).trans h6.1, (h5 _ (by omega)).trans h6.2⟩
        · subst h
          exact ⟨H4.out.2.1, H4.out.2.2.1⟩
      case measure => simp [intOf]; omega
    · obtain rfl : j = n := by omega
      go_wp2
      go_ret
      exact ⟨ret_int (by omega), HG.out, cu, HH.out, HCS.out, HALL.out⟩
set_option maxRecDepth 20000 in
set_option maxHeartbeats 4000000 in
theorem mark_nil (K : Nat) (w : World) :
    Calls Try.prog 26 #[.slice none 0 0, .int .i64 K] w fun e w' => e = .returned (.int .i64 K) ∧ w' = w := by
  go_enter Try.func26, Try.ntmps26
  go_wp2
  go_loop [1, 5] (fun k i => k = .int .i64 K ∧ i = .int .i64 0) (fun _ _ => 0)
  case atStart => exact ⟨rfl, rfl⟩
  case round =>
    obtain ⟨rfl, rfl⟩ := hrel
    go_wp2
    go_ret
    exact ⟨rfl, rfl⟩
end Go.Proofs.Ytpcfhbbialgcfaa.P
