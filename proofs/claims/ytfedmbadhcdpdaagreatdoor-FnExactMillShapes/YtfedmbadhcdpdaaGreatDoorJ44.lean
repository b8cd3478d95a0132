import Derived.Test.YtfedmbadhcdpdaaGreatDoorJ43
/-! The texts of marks. Printed by gen_icmark.py. -/
namespace Go.Proofs.YtfedmbadhcdpdaaGreatDoor.C
open Go.RowKit
set_option maxRecDepth 20000
/-- The decimal digits, the last one last; by fuel. -/
def decF : Nat → Nat → List UInt8 → List UInt8
  | 0, _, acc => acc
  | f + 1, k, acc => if k = 0 then acc else decF f (k / 10) ((48 + k % 10).toUInt8 :: acc)
def mtxt (k : Nat) : ByteArray := ⟨(109 :: decF k k []).toArray⟩
theorem conv_one (W : World) (d : Int) (b : UInt8) (hd : (b.toNat : Int) = d) : (convert 107 9 (.slice (some ⟨W.heap.size, 0, none⟩) 1 1)).run Tryz.prog (W.alloc (.cells #[.int .u8 d] 5)) = .ok (.string ⟨[b].toArray⟩) (W.alloc (.cells #[.int .u8 d] 5)) := by
  refine run_convert_bytes_back (W.alloc (.cells #[.int .u8 d] 5)) 107 9 5 ⟨W.heap.size, 0, none⟩ 1 [b] Tryz.underlying107 Tryz.underlying5 Tryz.underlying9 ?_
  intro j hj
  obtain rfl : j = 0 := by simpa using hj
  have h := R.row_cell (heap_alloc_new W (.cells #[.int .u8 d] 5)) 0
  subst hd
  exact h
theorem cons_bytes (b : UInt8) (acc : List UInt8) : ((⟨#[b]⟩ : ByteArray) ++ ⟨acc.toArray⟩) = ⟨(b :: acc).toArray⟩ := by
  apply ByteArray.ext
  rw [ByteArray.data_append]
  simp
theorem digit_byte (j : Nat) : (((48 + j % 10).toUInt8).toNat : Int) = 48 + (j : Int) % 10 := by
  have h : (48 + j % 10) < 256 := by omega
  simp [Nat.mod_eq_of_lt h]
set_option maxRecDepth 20000 in
set_option maxHeartbeats 100000000 in
theorem markText_any (k : Nat) (w : World) (h0 : 0 < k) (h1 : k ≤ 10000000) :
    Calls Tryz.prog 57 #[.int .i64 k] w fun e w' => e = .returned (.string (mtxt k)) ∧ Below w.heap.size w w' := by
  go_enter Tryz.func57, Tryz.ntmps57
  go_wp2
  go_loopw [0, 3] (fun i o wr => ∃ (j f : Nat) (acc : List UInt8), i = .int .i64 j ∧ j ≤ f ∧ acc.length + j ≤ k ∧ o = .string ⟨acc.toArray⟩ ∧ Below w.heap.size w wr ∧ decF f j acc = decF k k []) (fun i _ _ => (intOf i).toNat)
  case atStart => exact ⟨k, k, [], rfl, Nat.le_refl _, by simp, rfl, Below.refl _ _, rfl⟩
  case round =>
    obtain ⟨j, f, acc, rfl, hf, hj, rfl, hb, hd⟩ := hrel
    have HD := hid hd
    have HB := hid hb
    clear hd hb
    have hal : acc.length ≤ 10000000 := by omega
    by_cases hj0 : 0 < j
    · obtain ⟨f, rfl⟩ : ∃ f', f = f' + 1 := ⟨f - 1, by omega⟩
      have hconv := conv_one wr (48 + (j : Int) % 10) (48 + j % 10).toUInt8 (digit_byte j)
      have NX : Hid (decF f (j / 10) ((48 + j % 10).toUInt8 :: acc) = decF k k []) := by
        show _ = _; rw [← HD.out]; simp only [decF]; rw [if_neg (by omega)]
      generalize (48 + j % 10).toUInt8 = b at *
      go_wp2
      go_roundw
      case rel => exact ⟨j / 10, f, b :: acc, by go_num, by omega, by simp; omega, by rw [cons_bytes], HB.out.alloc HB.out.size _, NX.out⟩
      case measure => simp [intOf]; omega
    · have HE : Hid (decF k k [] = acc) := by
        show _ = _; rw [← HD.out]
        obtain rfl : j = 0 := by omega
        cases f <;> rfl
      go_wp2
      go_ret
      exact ⟨by unfold mtxt; rw [HE.out, ← cons_bytes]; rfl, HB.out⟩
theorem markText_int (a : Int) (k : Nat) (w : World) (he : a = k) (h0 : 0 < k) (h1 : k ≤ 10000000) :
    Calls Tryz.prog 57 #[.int .i64 a] w fun e w' => e = .returned (.string (mtxt k)) ∧ Below w.heap.size w w' := by
  subst he
  exact markText_any k w h0 h1
theorem grown_setM {w wr : World} {g : Nat} (h : w.grownBy wr (some g)) (i : Nat) (v : Value) : w.grownBy (wr.setCell ⟨g, i, none⟩ v) (some g) :=
  ⟨h.os, h.tape, h.output, Nat.le_trans h.size (R.below_set (Below.refl 0 wr) g i (Nat.zero_le _) v).size, fun k hk hne => (Below.heap_setCell wr ⟨g, i, none⟩ v k (fun e => hne (by rw [e]))).trans (h.block k hk hne)⟩
theorem grown_next {w wr w1 : World} {g : Nat} (h : w.grownBy wr (some g)) (hb : Below wr.heap.size wr w1) : w.grownBy w1 (some g) :=
  ⟨hb.os.trans h.os, hb.tape.trans h.tape, hb.output.trans h.output, Nat.le_trans h.size hb.size, fun k hk hne => (hb.block k (Nat.lt_of_lt_of_le hk h.size)).trans (h.block k hk hne)⟩
end Go.Proofs.YtfedmbadhcdpdaaGreatDoor.C
/-! The shapes of a function, by the model: what its loop keeps. -/
namespace Go.Proofs.YtfedmbadhcdpdaaGreatDoor.C
open Go.RowKit
set_option maxRecDepth 20000
theorem int_cells {W : World} {ad : Addr} {c : Nat} {l : List Int} (h : IntRow W (.slice (some ad) l.length c) l) : ∀ j u, (l.map fun x => Value.int .i64 x)[j]? = some u → W.cell? (ad.add j) = some u := by
  obtain ⟨ad', c', e, _, _, h3⟩ := h
  injection e with ea _ _
  intro j u hj
  rcases h3 with h3 | ⟨g, cur, e1, e2, e3⟩
  · subst h3; simp at hj
  · rw [e1] at ea
    injection ea with ea
    subst ea
    have hlt : j < l.length := by
      have := (List.getElem?_eq_some_iff.1 hj).1
      simpa using this
    have hu : u = .int .i64 (l.getD j 0) := by
      rw [List.getElem?_map, List.getElem?_eq_getElem hlt] at hj
      simp at hj
      rw [← hj, List.getD_eq_getElem?_getD, List.getElem?_eq_getElem hlt]
      rfl
    have ea : (⟨g, 0, none⟩ : Addr).add j = ⟨g, j, none⟩ := by
      by_cases hj0 : j = 0
      · subst hj0; simp [Addr.add]
      · simp [Addr.add, hj0]
    rw [hu, ea, cell_hp e2]
    exact e3 j hlt
/-- A row of shapes of one's own, by its values. -/
structure SRow (B : Nat) (W : World) (v : Value) (l : List Sh) (xs : List (Value × Value)) : Prop where
  len : xs.length = l.length
  own : W.ownsRow B 43 3 v l.length ((l.zip xs).flatMap fun p => [.int .i64 (p.1.st : Nat), p.2.1, p.2.2])
  ins : ∀ i, i < l.length → IntRow W ((xs.getD i (.slice none 0 0, .slice none 0 0)).1) (l.getD i bot).sl ∧ IntRow W ((xs.getD i (.slice none 0 0, .slice none 0 0)).2) (l.getD i bot).sk
theorem flat_get : ∀ (z : List (Sh × Value × Value)) (i : Nat) (p : Sh × Value × Value), z[i]? = some p → (z.flatMap fun p => [Value.int .i64 (p.1.st : Nat), p.2.1, p.2.2])[i * 3]? = some (.int .i64 (p.1.st : Nat)) ∧ (z.flatMap fun p => [Value.int .i64 (p.1.st : Nat), p.2.1, p.2.2])[i * 3 + 1]? = some p.2.1 ∧ (z.flatMap fun p => [Value.int .i64 (p.1.st : Nat), p.2.1, p.2.2])[i * 3 + 2]? = some p.2.2
  | [], _, _, h => by simp at h
  | q :: z, 0, p, h => by
    simp at h
    subst h
    exact ⟨rfl, rfl, rfl⟩
  | q :: z, i + 1, p, h => by
    have := flat_get z i p (by simpa using h)
    have e : (i + 1) * 3 = i * 3 + 1 + 1 + 1 := by omega
    rw [e]
    exact this
theorem SRow.rd {B : Nat} {W : World} {v : Value} {l : List Sh} {xs : List (Value × Value)} (h : SRow B W v l xs) : RdS W v l := by
  have hl := h.len
  obtain ⟨_, ⟨rfl, hn⟩ | ⟨g, cap, cur, rfl, hB, hc, hnc, hm, hz, ht⟩⟩ := h.own
  · exact ⟨none, 0, by rw [hn], .inl (List.eq_nil_of_length_eq_zero hn)⟩
  · refine ⟨_, cap, rfl, .inr ⟨g, rfl, lt_hp hc, fun i hi => ?_⟩⟩
    have hx : i < xs.length := by omega
    have hzip : (l.zip xs)[i]? = some (l.getD i bot, xs.getD i (.slice none 0 0, .slice none 0 0)) := by
      rw [List.getElem?_eq_getElem (by rw [List.length_zip]; omega), List.getElem_zip]
      simp [List.getD_eq_getElem?_getD, hi, hx]
    obtain ⟨h0, h1, h2⟩ := flat_get _ i _ hzip
    have e1 : ∀ j, j < l.length * 3 → cur[j]? = ((l.zip xs).flatMap fun p => [Value.int .i64 (p.1.st : Nat), p.2.1, p.2.2])[j]? := fun j hj => by
      have : (cur.toList.take (l.length * 3))[j]? = ((l.zip xs).flatMap fun p => [Value.int .i64 (p.1.st : Nat), p.2.1, p.2.2])[j]? := by rw [ht]
      rw [List.getElem?_take_of_lt hj, Array.getElem?_toList] at this
      exact this
    have hin := h.ins i hi
    exact ⟨_, _, (cell_hp hc _).trans ((e1 _ (by omega)).trans h0), (cell_hp hc _).trans ((e1 _ (by omega)).trans h1), (cell_hp hc _).trans ((e1 _ (by omega)).trans h2), hin.1, hin.2⟩
theorem SRow.next {B : Nat} {W V : World} {v : Value} {l : List Sh} {xs : List (Value × Value)} (h : SRow B W v l xs) (hb : Below W.heap.size W V) : SRow B V v l xs :=
  ⟨h.len, own_next h.own hb, fun i hi => ⟨(h.ins i hi).1.next hb, (h.ins i hi).2.next hb⟩⟩
theorem own_tyS {W : World} {B n : Nat} {v : Value} {xs : List Value} {g : Nat} {cs : Array Value} (h : W.ownsRow B 43 3 v n xs) (hg : W.heap[g]? = some (.cells cs 3 (0, 0))) : some g ≠ v.ownBlock := own_ty3 h hg
/-- A further shape. -/
theorem SRow.more {B : Nat} {W V : World} {v v' : Value} {l : List Sh} {xs : List (Value × Value)} {s : Sh} {a b : Value} {n : Nat} (h : SRow B W v l xs) (hn : n = l.length) (ho : V.ownsRow B 43 3 v' (n + 1) (((l.zip xs).flatMap fun p => [Value.int .i64 (p.1.st : Nat), p.2.1, p.2.2]) ++ [.int .i64 (s.st : Nat), a, b])) (hg : W.grownBy V v.ownBlock) (h1 : IntRow W a s.sl) (h2 : IntRow W b s.sk) : SRow B V v' (l ++ [s]) (xs ++ [(a, b)]) := by
  have hk : ∀ (g : Nat) (cur : Array Value), W.heap[g]? = some (.cells cur 3 (0, 0)) → V.heap[g]? = W.heap[g]? := fun g cur e => hg.block g (lt_hp e) (own_tyS h.own e)
  refine ⟨by simp [h.len], ?_, fun i hi => ?_⟩
  · rw [List.zip_append h.len.symm, List.flatMap_append, List.length_append, ← hn]
    exact ho
  · rw [List.length_append] at hi
    simp only [List.length_cons, List.length_nil] at hi
    by_cases e : i < l.length
    · have e2 : i < xs.length := by rw [h.len]; exact e
      have e3 : (xs ++ [(a, b)]).getD i (.slice none 0 0, .slice none 0 0) = xs.getD i (.slice none 0 0, .slice none 0 0) := by
        simp [List.getD_eq_getElem?_getD, List.getElem?_append_left e2]
      have e4 : (l ++ [s]).getD i bot = l.getD i bot := by simp [List.getD_eq_getElem?_getD, List.getElem?_append_left e]
      rw [e3, e4]
      exact ⟨(h.ins i e).1.keep hk, (h.ins i e).2.keep hk⟩
    · obtain rfl : i = l.length := by omega
      have e3 : (xs ++ [(a, b)]).getD l.length (.slice none 0 0, .slice none 0 0) = (a, b) := by rw [← h.len]; simp [List.getD_eq_getElem?_getD]
      have e4 : (l ++ [s]).getD l.length bot = s := by simp [List.getD_eq_getElem?_getD]
      rw [e3, e4]
      exact ⟨h1.keep hk, h2.keep hk⟩
end Go.Proofs.YtfedmbadhcdpdaaGreatDoor.C
/-! Marks in rows of instructions: only their own block is written. -/
namespace Go.Proofs.YtfedmbadhcdpdaaGreatDoor.C
open Go.RowKit
set_option maxRecDepth 20000
/-- A row of instructions in a block of its own. -/
def NB (W : World) (g n : Nat) : Prop := ∃ cur : Array Value, W.heap[g]? = some (.cells cur 76 (0, 0)) ∧ cur.size = n * 4
theorem NB.keep {W V : World} {g n : Nat} (h : NB W g n) (hb : V.heap[g]? = W.heap[g]?) : NB V g n := by
  obtain ⟨cur, e, h1⟩ := h
  exact ⟨cur, hb.trans e, h1⟩
theorem NB.set {W : World} {g n i : Nat} {v : Value} (h : NB W g n) : NB (W.setCell ⟨g, i, none⟩ v) g n := by
  obtain ⟨cur, e, h1⟩ := h
  exact ⟨_, R.set_at (i := i) v e, by rw [Array.size_setIfInBounds]; exact h1⟩
theorem NB.lt {W : World} {g n : Nat} (h : NB W g n) : g < W.heap.size := by
  obtain ⟨cur, e, _⟩ := h
  exact lt_hp e
theorem NB.room {W : World} {g n i : Nat} (h : NB W g n) (hi : i < n * 4) : (∃ v, W.cell? ⟨g, i, none⟩ = some v) ∧ W.frozen? ⟨g, i, none⟩ = false := by
  obtain ⟨cur, e, h1⟩ := h
  exact R.row_room e (by omega)
theorem NB.next {W V : World} {g n : Nat} (h : NB W g n) (hb : Below W.heap.size W V) : NB V g n := h.keep (hb.block _ h.lt)
set_option maxHeartbeats 8000000 in
theorem markN_any (g n c K : Nat) (w : World) (hn : n ≤ 1048576) (hK : 0 < K) (hK2 : K ≤ 5000000) (h : NB w g n) :
    Calls Tryz.prog 58 #[.slice (some ⟨g, 0, none⟩) n c, .int .i64 K] w fun e w' => e = .returned (.int .i64 (K + 4 * n : Nat)) ∧ w.grownBy w' (some g) ∧ NB w' g n := by
  have HG0 := hid h
  clear h
  go_enter Tryz.func58, Tryz.ntmps58
  go_wp2
  go_loopw [1, 5] (fun k i wr => ∃ (j : Nat), i = .int .i64 j ∧ k = .int .i64 (K + 4 * j : Nat) ∧ j ≤ n ∧ w.grownBy wr (some g) ∧ NB wr g n) (fun _ i _ => n - (intOf i).toNat)
  case atStart => exact ⟨0, rfl, rfl, Nat.zero_le _, ⟨rfl, rfl, rfl, Nat.le_refl _, fun _ _ _ => rfl⟩, HG0.out⟩
  case round =>
    obtain ⟨j, rfl, rfl, hj, hgw, hh⟩ := hrel
    have HG := hid hgw
    have HH := hid hh
    clear hgw hh HG0
    by_cases hlt : j < n
    · obtain ⟨M, hM⟩ : ∃ M, K + 4 * j = M := ⟨_, rfl⟩
      have HM := hid hM
      have hMa : 0 < M := by omega
      have hMb : M ≤ 9500000 := by omega
      rw [hM]
      clear hM
      obtain ⟨⟨v0, x0⟩, f0⟩ := HH.out.room (i := j * 4) (by omega)
      go_upto_region 6 with fail
      have HG1 := hid (grown_setM HG.out (j * 4) (.int .i64 M))
      have HH1 := hid (HH.out.set (i := j * 4) (v := .int .i64 M))
      obtain ⟨W1, hW1⟩ : ∃ W, wr.setCell ⟨g, j * 4, none⟩ (.int .i64 M) = W := ⟨_, rfl⟩
      rw [hW1] at HG1 HH1 ⊢
      clear hW1 x0 f0
      obtain ⟨⟨v1, x1⟩, f1⟩ := HH1.out.room (i := j * 4 + 1) (by omega)
      go_upto_region 8 with fail
      have HG2 := hid (grown_setM HG1.out (j * 4 + 1) (.int .i64 ((M : Int) + 1)))
      have HH2 := hid (HH1.out.set (i := j * 4 + 1) (v := .int .i64 ((M : Int) + 1)))
      obtain ⟨W2, hW2⟩ : ∃ W, W1.setCell ⟨g, j * 4 + 1, none⟩ (.int .i64 ((M : Int) + 1)) = W := ⟨_, rfl⟩
      rw [hW2] at HG2 HH2 ⊢
      clear hW2 x1 f1
      obtain ⟨⟨v2, x2⟩, f2⟩ := HH2.out.room (i := j * 4 + 2) (by omega)
      go_upto_region 10 with fail
      have HG3 := hid (grown_setM HG2.out (j * 4 + 2) (.int .i64 ((M : Int) + 1 + 1)))
      have HH3 := hid (HH2.out.set (i := j * 4 + 2) (v := .int .i64 ((M : Int) + 1 + 1)))
      obtain ⟨W3, hW3⟩ : ∃ W, W2.setCell ⟨g, j * 4 + 2, none⟩ (.int .i64 ((M : Int) + 1 + 1)) = W := ⟨_, rfl⟩
      rw [hW3] at HG3 HH3 ⊢
      clear hW3 x2 f2
      go_upto_region 11 with (go_at_call 57; refine (markText_int _ (M + 3) _ (by omega) (by omega) (by omega)).mono ?_; rintro e w4 ⟨rfl, hb4⟩; have HG4 := hid (grown_next HG3.out hb4); have HH4 := hid (HH3.out.next hb4); obtain ⟨⟨v4, x4⟩, f4⟩ := HH4.out.room (i := j * 4 + 3) (by omega); clear hb4)
      have HG5 := hid (grown_setM HG4.out (j * 4 + 3) (.string (mtxt (M + 3))))
      have HH5 := hid (HH4.out.set (i := j * 4 + 3) (v := .string (mtxt (M + 3))))
      have HKE : Hid (K + 4 * (j + 1) = M + 4) := hid (by have := HM.out; omega)
      clear x4 f4
      go_wp2
      go_roundw
      case rel => exact ⟨j + 1, by go_num, (by rw [HKE.out]; go_num), by omega, HG5.out, HH5.out⟩
      case measure => simp [intOf]; omega
    · obtain rfl : j = n := by omega
      go_wp2
      go_ret
      exact ⟨rfl, HG.out, HH.out⟩
end Go.Proofs.YtfedmbadhcdpdaaGreatDoor.C
