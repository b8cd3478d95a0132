import Derived.Test.YtkdedehneopgbaaPTe
/-! The form of a plan, and the program's own way to it. -/
namespace Go.Proofs.Ytkdedehneopgbaa
open Go.RowKit
set_option maxRecDepth 20000
/-- A line of an in or an out. -/
def lineB (m : UInt8) (t : ByteArray) : List UInt8 := [32, 32, m, 32] ++ quoteL t.data.toList ++ [10]
def linesL (m : UInt8) (s : Nat → ByteArray) (n : Nat) : List UInt8 := (List.range n).flatMap fun i => lineB m (s i)
def headL (x : Tg) : List UInt8 := quoteL x.name.data.toList ++ [58, 32] ++ quoteL x.tool.data.toList ++ [32] ++ quoteL x.arg.data.toList ++ [10]
def formT (x : Tg) : List UInt8 := headL x ++ linesL 60 x.ins x.N ++ linesL 62 x.outs x.M
/-- The form of the first n targets. -/
def formL (f : Nat → Tg) (n : Nat) : List UInt8 := (List.range n).flatMap fun i => formT (f i)
theorem linesL_succ (m : UInt8) (s : Nat → ByteArray) (n : Nat) : linesL m s (n + 1) = linesL m s n ++ lineB m (s n) := by simp [linesL, List.range_succ, List.flatMap_append]
theorem formL_succ (f : Nat → Tg) (n : Nat) : formL f (n + 1) = formL f n ++ formT (f n) := by simp [formL, List.range_succ, List.flatMap_append]
theorem lineB_len (m : UInt8) (t : ByteArray) : (lineB m t).length ≤ 7 + 3 * t.size := by
  have := quoteL_len t.data.toList
  rw [len_size] at this
  simp only [lineB, List.length_append, List.length_cons, List.length_nil]
  omega
theorem linesL_len (m : UInt8) (s : Nat → ByteArray) (n : Nat) : (linesL m s n).length ≤ 7 * wtx s n := by
  induction n with
  | zero => simp [linesL]
  | succ n ih =>
    have := lineB_len m (s n)
    rw [linesL_succ, List.length_append]
    simp only [wtx]
    omega
theorem headL_len (x : Tg) : (headL x).length ≤ 10 + 3 * (x.name.size + x.tool.size + x.arg.size) := by
  have h1 := quoteL_len x.name.data.toList
  have h2 := quoteL_len x.tool.data.toList
  have h3 := quoteL_len x.arg.data.toList
  rw [len_size] at h1 h2 h3
  simp only [headL, List.length_append, List.length_cons, List.length_nil]
  omega
theorem formT_len (x : Tg) : (formT x).length ≤ 10 + 7 * wtg x := by
  have h1 := headL_len x
  have h2 := linesL_len 60 x.ins x.N
  have h3 := linesL_len 62 x.outs x.M
  simp only [formT, List.length_append, wtg]
  omega
theorem formL_len (f : Nat → Tg) (n : Nat) : (formL f n).length ≤ 10 * wpl f n := by
  induction n with
  | zero => simp [formL]
  | succ n ih =>
    have := formT_len (f n)
    rw [formL_succ, List.length_append]
    simp only [wpl]
    omega
theorem formL_room (f : Nat → Tg) {j N : Nat} (hj : j < N) (hN : wpl f N ≤ 1048576) : (formL f j).length + 10 + 7 * wtg (f j) ≤ 10485760 ∧ wtg (f j) ≤ 1048576 := by
  have h1 := formL_len f j
  have h2 := wpl_at f hj
  omega
theorem formL_ne (f : Nat → Tg) {N : Nat} (h : 0 < N) : formL f N ≠ [] := by
  obtain ⟨n, rfl⟩ : ∃ n, N = n + 1 := ⟨N - 1, by omega⟩
  rw [formL_succ]
  simp [formT, headL, quoteL]
def markS (m : UInt8) : ByteArray := ⟨#[32, 32, m, 32]⟩
set_option maxHeartbeats 2000000 in
theorem lines_any (B b : Nat) (xw : Value) (l : List UInt8) (m : UInt8) (a : Addr) (N cap : Nat) (s : Nat → ByteArray) (w : World) (h : WrAt B b xw l w) (hN : N ≤ 1048576) (hw : wtx s N ≤ 1048576) (hlen : l.length + 7 * wtx s N ≤ 100000000) (hab : a.block < B) (hal : a.block < w.heap.size) (hs : ∀ i, i < N → w.cell? (a.add i) = some (.string (s i))) :
    Calls Try.prog 14 #[.pointer (some ⟨b, 0, none⟩), .string ⟨#[32, 32, m, 32]⟩, .slice (some a) N cap] w fun e w' => e = .returned (.tuple #[]) ∧ WrAt B b xw (l ++ linesL m s N) w' ∧ Wk B b w w' := by
  have HW := hid h
  have HL := hid hlen
  have HWT := hid hw
  have HC : Hid (∀ W q, q < N → Wk B b w W → W.cell? (a.add q) = some (.string (s q))) := fun W q hq hW => by
    have hle := HW.out.le
    exact (hW.cell (p := a.add q) (by rw [add_block]; exact hal) (by rw [add_block]; omega) (.inl (by rw [add_block]; exact hab))).trans (hs q hq)
  clear h hlen hs hw
  go_enter Try.func14, Try.ntmps14
  go_wp2
  go_loopw [10] (fun c wr => ∃ q : Nat, q ≤ N ∧ c = .int .i64 q ∧ WrAt B b xw (l ++ linesL m s q) wr ∧ Wk B b w wr) (fun c _ => N - (intOf c).toNat)
  case atStart => exact ⟨0, Nat.zero_le _, rfl, by simpa [linesL] using HW.out, Wk.refl _ _ _⟩
  case round =>
    obtain ⟨q, hq, rfl, hwr, hwk⟩ := hrel
    have HWR := hid hwr
    have HWK := hid hwk
    clear hwr hwk
    by_cases hlt : q < N
    · have c0 := HC.out wr q hlt HWK.out
      have HT := hid (linesL_succ m s q)
      have HX : Hid ((l ++ linesL m s q).length + 7 + 3 * (s q).size ≤ 100000000 ∧ (s q).size ≤ 1048576) := by
        show _ ∧ _
        have h1 := linesL_len m s q
        have h2 := wtx_at s hlt
        have := HL.out
        have := HWT.out
        rw [List.length_append]
        omega
      obtain ⟨L, hL⟩ : ∃ L, l ++ linesL m s q = L := ⟨_, rfl⟩
      have HLE := hid hL
      rw [hL] at HWR HX
      clear hL
      obtain ⟨tx, htx⟩ : ∃ tx, s q = tx := ⟨_, rfl⟩
      rw [htx] at c0 HX HT
      clear htx
      go_wp2_with fail
      refine (put1 B b xw L ⟨#[32, 32, m, 32]⟩ wr HWR.out (by have := HX.out.1; show L.length + 4 ≤ _; omega)).mono ?_
      rintro e w1 ⟨rfl, hw1, hk1⟩
      have HW1 := hid hw1
      have HK1 := hid (HWK.out.trans hk1)
      clear hw1 hk1
      go_wp2_with fail
      refine (quoted_any B b xw _ tx _ HW1.out (by have := HX.out.2; omega) (by have := HX.out.1; simp only [List.length_append]; show L.length + 4 + _ ≤ _; omega)).mono ?_
      rintro e w2 ⟨rfl, hw2, hk2⟩
      have HW2 := hid hw2
      have HK2 := hid (HK1.out.trans hk2)
      clear hw2 hk2
      go_wp2_with fail
      refine (put1 B b xw _ ⟨#[10]⟩ _ HW2.out (by have := HX.out.1; have := quoteL_len tx.data.toList; rw [len_size] at this; simp only [List.length_append]; show L.length + 4 + _ + 1 ≤ _; omega)).mono ?_
      rintro e w3 ⟨rfl, hw3, hk3⟩
      have HW3 := hid hw3
      have HK3 := hid (HK2.out.trans hk3)
      clear hw3 hk3
      go_wp2
      go_roundw
      case rel =>
        refine ⟨q + 1, by omega, by go_num, ?_, HK3.out⟩
        rw [HT.out, ← List.append_assoc, HLE.out]
        have e : L ++ lineB m tx = L ++ (⟨#[32, 32, m, 32]⟩ : ByteArray).data.toList ++ quoteL tx.data.toList ++ (⟨#[10]⟩ : ByteArray).data.toList := by simp [lineB]
        rw [e]
        exact HW3.out
      case measure => simp [intOf]; omega
    · obtain rfl : q = N := by omega
      go_wp2
      go_end0
      exact ⟨rfl, HWR.out, HWK.out⟩
set_option maxHeartbeats 1000000 in
theorem lines_none (B b : Nat) (xw : Value) (l : List UInt8) (m : UInt8) (ad : Option Addr) (cap : Nat) (s : Nat → ByteArray) (w : World) (h : WrAt B b xw l w) :
    Calls Try.prog 14 #[.pointer (some ⟨b, 0, none⟩), .string ⟨#[32, 32, m, 32]⟩, .slice ad 0 cap] w fun e w' => e = .returned (.tuple #[]) ∧ WrAt B b xw (l ++ linesL m s 0) w' ∧ Wk B b w w' := by
  have HW := hid h
  clear h
  go_enter Try.func14, Try.ntmps14
  go_wp2
  go_loopw [10] (fun c wr => c = .int .i64 0 ∧ wr = w) (fun _ _ => 0)
  case atStart => exact ⟨rfl, rfl⟩
  case round =>
    obtain ⟨rfl, rfl⟩ := hrel
    go_wp2
    go_end0
    exact ⟨rfl, by simpa [linesL] using HW.out, Wk.refl _ _ _⟩
/-- Texts that lay there ahead of B. -/
def Early (B : Nat) (W : World) (ad : Option Addr) (N : Nat) (s : Nat → ByteArray) : Prop := N = 0 ∨ ∃ a, ad = some a ∧ a.block < B ∧ a.block < W.heap.size ∧ ∀ i, i < N → W.cell? (a.add i) = some (.string (s i))
theorem TextsA.early {W : World} {ad : Option Addr} {N : Nat} {s : Nat → ByteArray} (h : TextsA W ad N s) : Early W.heap.size W ad N s := by
  rcases h with h | ⟨a, e, h1, h2⟩
  · exact .inl h
  · exact .inr ⟨a, e, h1, h1, h2⟩
theorem Early.wk {W W' : World} {B b : Nat} {ad : Option Addr} {N : Nat} {s : Nat → ByteArray} (h : Early B W ad N s) (hb : Wk B b W W') (hB : B ≤ b) : Early B W' ad N s := by
  rcases h with h | ⟨a, e, h0, h1, h2⟩
  · exact .inl h
  · exact .inr ⟨a, e, h0, Nat.lt_of_lt_of_le h1 hb.size, fun i hi => (hb.cell (p := a.add i) (by rw [add_block]; exact h1) (by rw [add_block]; omega) (.inl (by rw [add_block]; exact h0))).trans (h2 i hi)⟩
theorem lines_all (B b : Nat) (xw : Value) (l : List UInt8) (m : UInt8) (ad : Option Addr) (N cap : Nat) (s : Nat → ByteArray) (w : World) (h : WrAt B b xw l w) (hw : wtx s N ≤ 1048576) (hlen : l.length + 7 * wtx s N ≤ 100000000) (hs : Early B w ad N s) :
    Calls Try.prog 14 #[.pointer (some ⟨b, 0, none⟩), .string ⟨#[32, 32, m, 32]⟩, .slice ad N cap] w fun e w' => e = .returned (.tuple #[]) ∧ WrAt B b xw (l ++ linesL m s N) w' ∧ Wk B b w w' := by
  rcases hs with rfl | ⟨a, rfl, h0, h1, h2⟩
  · exact lines_none B b xw l m ad cap s w h
  · exact lines_any B b xw l m a N cap s w h (Nat.le_trans (wtx_ge s N) hw) hw hlen h0 h1 h2
set_option maxHeartbeats 1000000 in
theorem string_nil (B b : Nat) (p xw : Value) (w : World) (h : WrC B b xw p (.slice none 0 0) [] w) :
    Calls Try.prog 15 #[.pointer (some ⟨b, 0, none⟩)] w fun e w' => e = .returned (.string ⟨#[]⟩) ∧ Below B w w' := by
  have c1 : w.drew.cell? ⟨b, 1, none⟩ = some (.slice none 0 0) := by
    have : w.drew.heap[b]? = some (.cells #[p, .slice none 0 0, xw] 44 (0, 0)) := h.blk
    rw [Lib.cell_of_heap this]; rfl
  have hSD : (Builtin.unsafeSliceData_ #[33] 60 #[.slice none 0 0]).run Try.prog w.drew = .ok (.pointer none) w.drew := Lib.run_unsafeSliceData_nil _ _ _ _ _
  have hUS : (Builtin.unsafeString_ #[60, 3] 9 #[.pointer none, .int .i64 0]).run Try.prog w.drew = .ok (.string .empty) w.drew := Lib.run_unsafeString_none _ _ _ _ _
  have mixed : Try.prog.follows .mixedOrders = true := by kernel_rfl
  clear h
  go_enter Try.func15, Try.ntmps15
  go_wp2
  go_region_o
  all_goals (go_wp2; go_ret; exact ⟨rfl, Below.drew (Below.refl B w)⟩)
end Go.Proofs.Ytkdedehneopgbaa
