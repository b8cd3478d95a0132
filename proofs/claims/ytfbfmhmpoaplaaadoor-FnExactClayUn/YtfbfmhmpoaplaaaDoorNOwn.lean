import Derived.Test.YtfbfmhmpoaplaaaDoorUEq
import Derived.Deep.RegionHeld3
import Derived.Laws.IdiomStrings
/-! Rows of atoms of their own: copied, marked, held. -/
namespace Go.Proofs.YtfbfmhmpoaplaaaDoor
open Go.RowKit
set_option maxRecDepth 20000
/-- All that lay in w is as it was, but for the blocks of S. -/
structure Sv (S : Nat → Prop) (w w' : World) : Prop where
  os : w'.os = w.os
  tape : w'.tape = w.tape
  output : w'.output = w.output
  size : w.heap.size ≤ w'.heap.size
  block : ∀ k, k < w.heap.size → ¬ S k → w'.heap[k]? = w.heap[k]?
theorem Sv.refl (S : Nat → Prop) (w : World) : Sv S w w := ⟨rfl, rfl, rfl, Nat.le_refl _, fun _ _ _ => rfl⟩
theorem Sv.trans {S : Nat → Prop} {a b c : World} (h : Sv S a b) (k : Sv S b c) : Sv S a c :=
  ⟨k.os.trans h.os, k.tape.trans h.tape, k.output.trans h.output, Nat.le_trans h.size k.size, fun i hi hs => (k.block i (Nat.lt_of_lt_of_le hi h.size) hs).trans (h.block i hi hs)⟩
theorem Sv.of_below {S : Nat → Prop} {a b : World} (h : Below a.heap.size a b) : Sv S a b := ⟨h.os, h.tape, h.output, h.size, fun k hk _ => h.block k hk⟩
theorem Sv.below {S : Nat → Prop} {a b : World} (h : Sv S a b) {B : Nat} (hB : B ≤ a.heap.size) (hS : ∀ k, S k → B ≤ k) : Below B a b := ⟨h.os, h.tape, h.output, h.size, fun k hk => h.block k (by omega) fun hs => by have := hS k hs; omega⟩
theorem Sv.alloc {S : Nat → Prop} {a w : World} (h : Sv S a w) (o : Obj) : Sv S a (w.alloc o) := h.trans (Sv.of_below ((Below.refl _ _).alloc (Nat.le_refl _) o))
theorem Sv.drew {S : Nat → Prop} {a w : World} (h : Sv S a w) : Sv S a w.drew := ⟨h.os, h.tape, h.output, h.size, h.block⟩
theorem Sv.setCell {S : Nat → Prop} {a w : World} (h : Sv S a w) {p : Addr} (hp : S p.block ∨ a.heap.size ≤ p.block) (u : Value) : Sv S a (w.setCell p u) :=
  ⟨h.os, h.tape, h.output, by have := h.size; simpa [World.setCell] using this, fun k hk hs => (Below.heap_setCell _ _ _ _ (by rintro rfl; rcases hp with hp | hp; exact hs hp; omega)).trans (h.block k hk hs)⟩
theorem Sv.cell {S : Nat → Prop} {a w : World} (h : Sv S a w) {p : Addr} (hp : p.block < a.heap.size) (hs : ¬ S p.block) : w.cell? p = a.cell? p := World.cell?_of_block (w := a) (h.block p.block hp hs)
theorem cell_hp {W : World} {k : Nat} {cs : Array Value} {t : TypeId} (h : W.heap[k]? = some (.cells cs t (0, 0))) (i : Nat) : W.cell? ⟨k, i, none⟩ = cs[i]? := by unfold World.cell?; rw [h]; rfl
theorem frozen_hp {W : World} {k : Nat} {cs : Array Value} {t : TypeId} (h : W.heap[k]? = some (.cells cs t (0, 0))) (i : Nat) : W.frozen? ⟨k, i, none⟩ = false := by unfold World.frozen?; rw [h]; simp
/-- Block g is a row of its own with room for n atoms; l lies at its beginning. -/
def OwnA (W : World) (g n : Nat) (l : List At) : Prop := (∃ cur, W.heap[g]? = some (.cells cur 51 (0, 0)) ∧ n * 4 ≤ cur.size) ∧ AtomsAt W g 0 l
theorem OwnA.lt {W : World} {g n : Nat} {l : List At} (h : OwnA W g n l) : g < W.heap.size := by obtain ⟨⟨_, h, _⟩, _⟩ := h; exact (Array.getElem?_eq_some_iff.1 h).1
theorem OwnA.next {W W' : World} {g n : Nat} {l : List At} (h : OwnA W g n l) (hb : Below W.heap.size W W') : OwnA W' g n l := by
  have hg := h.lt
  obtain ⟨⟨cur, h1, h2⟩, h3⟩ := h
  exact ⟨⟨cur, (hb.block g hg).trans h1, h2⟩, h3.below hb hg⟩
theorem AtomsAt.keep {W W' : World} {g o : Nat} {l : List At} (h : AtomsAt W g o l) (hk : W'.heap[g]? = W.heap[g]?) : AtomsAt W' g o l := fun i x hx => by
  have c : ∀ j, W'.cell? ⟨g, j, none⟩ = W.cell? ⟨g, j, none⟩ := fun j => World.cell?_of_block (w := W) hk
  obtain ⟨a, b, d, e⟩ := h i x hx
  exact ⟨(c _).trans a, (c _).trans b, (c _).trans d, (c _).trans e⟩
theorem OwnA.keep {W W' : World} {g n : Nat} {l : List At} (h : OwnA W g n l) (hk : W'.heap[g]? = W.heap[g]?) : OwnA W' g n l := by
  obtain ⟨⟨cur, h1, h2⟩, h3⟩ := h
  exact ⟨⟨cur, hk.trans h1, h2⟩, h3.keep hk⟩
/-- A row of atoms of its own. -/
def OwnV (W : World) (ad : Option Addr) (l : List At) : Prop := l = [] ∨ ∃ g, ad = some ⟨g, 0, none⟩ ∧ OwnA W g l.length l
theorem OwnV.next {W W' : World} {ad : Option Addr} {l : List At} (h : OwnV W ad l) (hb : Below W.heap.size W W') : OwnV W' ad l := h.imp_right fun ⟨g, e, h1⟩ => ⟨g, e, h1.next hb⟩
theorem OwnV.atoms {W : World} {ad : Option Addr} {l : List At} (h : OwnV W ad l) : AtomsB W ad l := h.imp_right fun ⟨g, e, h1⟩ => ⟨g, 0, e, h1.lt, h1.2⟩
theorem OwnV.lt {W : World} {ad : Option Addr} {l : List At} (h : OwnV W ad l) (h0 : l ≠ []) (g : Nat) (e : ad = some ⟨g, 0, none⟩) : g < W.heap.size := by
  rcases h with h | ⟨g', e', h1⟩
  · exact absurd h h0
  · rw [e] at e'
    injection e' with e'
    injection e' with e'
    subst e'
    exact h1.lt
theorem OwnV.sv {S : Nat → Prop} {W W' : World} {ad : Option Addr} {l : List At} (h : OwnV W ad l) (hb : Sv S W W') (hS : l ≠ [] → ∀ g, ad = some ⟨g, 0, none⟩ → ¬ S g) : OwnV W' ad l := by
  by_cases h0 : l = []
  · exact .inl h0
  · rcases h with h | ⟨g, e, h1⟩
    · exact absurd h h0
    · exact .inr ⟨g, e, h1.keep (hb.block g h1.lt (hS h0 g e))⟩
theorem AtomsB.sv {S : Nat → Prop} {W W' : World} {ad : Option Addr} {l : List At} (h : AtomsB W ad l) (hb : Sv S W W') (hS : l ≠ [] → ∀ g o, ad = some ⟨g, o, none⟩ → ¬ S g) : AtomsB W' ad l := by
  by_cases h0 : l = []
  · exact .inl h0
  · rcases h with h | ⟨g, o, e, h1, h2⟩
    · exact absurd h h0
    · exact .inr ⟨g, o, e, Nat.lt_of_lt_of_le h1 hb.size, h2.keep (hb.block g h1 (hS h0 g o e))⟩
theorem AtomsB.lt {W : World} {ad : Option Addr} {l : List At} (h : AtomsB W ad l) (h0 : l ≠ []) (g o : Nat) (e : ad = some ⟨g, o, none⟩) : g < W.heap.size := by
  rcases h with h | ⟨g', o', e', h1, _⟩
  · exact absurd h h0
  · rw [e] at e'
    injection e' with e'
    injection e' with e'
    subst e'
    exact h1
set_option maxHeartbeats 2000000 in
theorem toAtomSX_any (a : Addr) (l : List At) (N cap : Nat) (w : World) (hl : l.length = N) (hN : N ≤ 1048576) (ha : a.block < w.heap.size) (hn : ∀ i x, l[i]? = some x → FourA w (a.add (i * 4)) x) :
    Calls Tryd.prog 19 #[.slice (some a) N cap] w fun e w' => e = .returned (.slice (some ⟨w.heap.size, 0, none⟩) N N) ∧ OwnA w' w.heap.size N l ∧ w.heap.size < w'.heap.size ∧ Below w.heap.size w w' := by
  have HN := hid hn
  have HL := hid hl
  clear hn hl
  obtain ⟨i0, hi, hz0, hz1, hz2⟩ := info_parts info_at
  have HHI := hid (And.intro hi (And.intro hz0 (And.intro hz1 hz2)))
  clear hi hz0 hz1
  go_enter Tryd.func19, Tryd.ntmps19
  go_wp2_with (at_make; refine wpList_make_full _ rfl _ _ 27 rfl w.heap.size 51 i0 (.agg #[.int .i64 0, .int .i64 0, .string ⟨#[]⟩, .int .i64 0]) 4 Tryd.underlying27 HHI.out.1 HHI.out.2.1 HHI.out.2.2.1 _ _ _ _ N rfl rfl rfl rfl (by rw [hz2]; omega) (by unfold maxLen; omega) (Nat.le_refl _) ?_; intro w1 o1 g1)
  have HF0 : Hid (Filling w1 w.heap.size N 0 l) := by
    obtain ⟨h1, ⟨h2, _⟩ | ⟨g, c, cur, e, _, h4, _, _, h7, _⟩⟩ := o1
    · cases h2
    · cases e
      exact ⟨⟨cur, h4, h7⟩, fun i x h => by simp at h⟩
  have HB0 := hid ((Below.refl w.heap.size w).grown g1 (Nat.le_refl _) (fun q e => by cases e))
  clear o1 g1
  go_loopw [4] (fun i wr => ∃ j : Nat, j ≤ N ∧ i = .int .i64 j ∧ Filling wr w.heap.size N j l ∧ Below w.heap.size w wr) (fun i _ => N - (intOf i).toNat)
  case atStart => exact ⟨0, Nat.zero_le _, rfl, HF0.out, HB0.out⟩
  case round =>
    obtain ⟨j, hj, rfl, hfi, hbw⟩ := hrel
    have HFI := hid hfi
    have HBW := hid hbw
    clear hfi hbw
    by_cases hlt : j < N
    · have hjl : j < l.length := by rw [HL.out]; exact hlt
      obtain ⟨x, hx⟩ : ∃ x, l[j]? = some x := ⟨_, List.getElem?_eq_getElem hjl⟩
      obtain ⟨c0, c1, c2, c3⟩ := (HN.out j x hx).below HBW.out (by rw [add_block]; exact ha)
      have HX := hid hx
      clear hx
      go_wp2_with fail
      refine (toAtom_any x _).mono ?_
      rintro e w2 ⟨rfl, hb2⟩
      have HB2 := hid hb2
      obtain ⟨⟨cur, hcur, hsz⟩, hno⟩ := HFI.out
      have hcur2 := (hb2.block _ (Array.getElem?_eq_some_iff.1 hcur).1).trans hcur
      have hidx : j * 4 + 3 < cur.size := by rw [hsz]; omega
      have HCUR := hid (And.intro hcur2 hsz)
      obtain ⟨⟨v0, x0⟩, ⟨v1, x1⟩, ⟨v2, x2⟩, ⟨v3, x3⟩, y0, y1, y2, y3⟩ := four_room hcur2 hidx
      clear hb2 hcur hcur2 hno
      simp only [atV]
      go_wp2
      have HNX := hid (fill_step HCUR.out (HFI.out.2.below (HB2.out) (by have := HBW.out.size; obtain ⟨⟨_, hc, _⟩, _⟩ := HFI.out; exact (Array.getElem?_eq_some_iff.1 hc).1)) hlt HX.out)
      have HBX := hid (HBW.out.trans (HB2.out.mono HBW.out.size))
      go_roundw
      case rel => exact ⟨j + 1, by omega, by go_num, HNX.out, below_set (below_set (below_set (below_set HBX.out _ _ (Nat.le_refl _) _) _ _ (Nat.le_refl _) _) _ _ (Nat.le_refl _) _) _ _ (Nat.le_refl _) _⟩
      case measure => simp [intOf]; omega
    · obtain rfl : j = N := by omega
      go_wp2
      go_ret
      exact ⟨rfl, ⟨(by obtain ⟨⟨cur, hc, hs⟩, _⟩ := HFI.out; exact ⟨cur, hc, by omega⟩), by have := HFI.out.2; rwa [List.take_of_length_le (by rw [HL.out]; omega)] at this⟩, by have := HBW.out.size; obtain ⟨⟨cur, hc, _⟩, _⟩ := HFI.out; exact (Array.getElem?_eq_some_iff.1 hc).1, HBW.out⟩
set_option maxHeartbeats 1000000 in
theorem toAtomSX_none (ad : Option Addr) (cap : Nat) (w : World) :
    Calls Tryd.prog 19 #[.slice ad 0 cap] w fun e w' => e = .returned (.slice (some ⟨w.heap.size, 0, none⟩) 0 0) ∧ OwnA w' w.heap.size 0 [] ∧ w.heap.size < w'.heap.size ∧ Below w.heap.size w w' := by
  obtain ⟨i0, hi, hz0, hz1, hz2⟩ := info_parts info_at
  have HHI := hid (And.intro hi (And.intro hz0 hz1))
  clear hi hz0 hz1
  go_enter Tryd.func19, Tryd.ntmps19
  go_wp2_with (at_make; refine wpList_make_full _ rfl _ _ 27 rfl w.heap.size 51 i0 (.agg #[.int .i64 0, .int .i64 0, .string ⟨#[]⟩, .int .i64 0]) 4 Tryd.underlying27 HHI.out.1 HHI.out.2.1 HHI.out.2.2 _ _ _ _ 0 rfl rfl rfl rfl (by omega) (by unfold maxLen; omega) (Nat.le_refl _) ?_; intro w1 o1 g1)
  have hsz : Hid (OwnA w1 w.heap.size 0 []) := by
    obtain ⟨h1, ⟨h2, _⟩ | ⟨g, c, cur, e, _, h4, _, _, h7, _⟩⟩ := o1
    · cases h2
    · cases e
      exact ⟨⟨cur, h4, by omega⟩, fun i x h => by simp at h⟩
  have HB0 := hid ((Below.refl w.heap.size w).grown g1 (Nat.le_refl _) (fun q e => by cases e))
  clear o1 g1
  go_loopw [4] (fun i wr => i = .int .i64 0 ∧ wr = w1) (fun _ _ => 0)
  case atStart => exact ⟨rfl, rfl⟩
  case round =>
    obtain ⟨rfl, rfl⟩ := hrel
    go_wp2
    go_ret
    exact ⟨rfl, hsz.out, hsz.out.lt, HB0.out⟩
theorem toAtomSX_all (ad : Option Addr) (l : List At) (N cap : Nat) (w : World) (hl : l.length = N) (hN : N ≤ 1048576) (hn : AtomsA w ad l) :
    Calls Tryd.prog 19 #[.slice ad N cap] w fun e w' => e = .returned (.slice (some ⟨w.heap.size, 0, none⟩) N N) ∧ OwnA w' w.heap.size N l ∧ w.heap.size < w'.heap.size ∧ Below w.heap.size w w' := by
  rcases hn with rfl | ⟨a, rfl, h1, h2⟩
  · cases hl; exact toAtomSX_none ad cap w
  · exact toAtomSX_any a l N cap w hl hN h1 h2
set_option maxHeartbeats 1000000 in
theorem toValueX_any (ad : Option Addr) (l : List At) (N cap : Nat) (w : World) (hl : l.length = N) (hN : N ≤ 1048576) (hn : AtomsA w ad l) :
    Calls Tryd.prog 8 #[.agg #[.slice ad N cap]] w fun e w' => ∃ g, e = .returned (.agg #[.slice (some ⟨g, 0, none⟩) N N]) ∧ OwnA w' g N l ∧ g < w'.heap.size ∧ w.heap.size ≤ g ∧ Below w.heap.size w w' := by
  have HB := hid ((Below.refl w.heap.size w).alloc (Nat.le_refl _) (.cells #[.slice ad N cap] 24))
  have HN := hid hn
  have HL := hid hl
  clear hn hl
  go_enter Tryd.func8, Tryd.ntmps8
  go_wp2_with fail
  have HB3 := hid (((HB.out.alloc (by simp) (.cells #[.slice none 0 0] 29))).alloc (by simp; omega) (.cells #[.slice none 0 0] 29))
  refine (toAtomSX_all ad l N cap _ HL.out hN (HN.out.below HB3.out)).mono ?_
  rintro e w1 ⟨rfl, hno, hlt, hb1⟩
  obtain ⟨⟨x1, y1⟩, ⟨x2, y2⟩⟩ := three_rows hb1
  have HNO := hid hno
  have HLT := hid hlt
  have HB1 := hid (HB3.out.trans (hb1.mono (by simp; omega)))
  clear hno hlt hb1
  go_wp2
  refine bodyPost_ret (v := .agg #[.slice (some ⟨w.heap.size + 1 + 1 + 1, 0, none⟩) N N]) (by simp [results, Tryd.results8, go_sem, x1]) rfl ⟨w.heap.size + 1 + 1 + 1, rfl, ?_, ?_, by omega, ?_⟩
  · have h3 := HNO.out
    simp only [World.size_alloc] at h3
    exact ⟨(by obtain ⟨cur, hc, hs⟩ := h3.1; exact ⟨cur, (Below.heap_setCell _ _ _ _ (by show _ ≠ _; simp only; omega)).trans ((Below.heap_setCell _ _ _ _ (by show _ ≠ _; simp only; omega)).trans hc), hs⟩), (h3.2.set (by omega) _).set (by omega) _⟩
  · have := HLT.out
    simp only [World.size_alloc] at this
    simpa using this
  · exact below_set (below_set HB1.out _ _ (by omega) _) _ _ (by omega) _
/-- The decimal digits, the last one last; by fuel. -/
def decF : Nat → Nat → List UInt8 → List UInt8
  | 0, _, acc => acc
  | f + 1, k, acc => if k = 0 then acc else decF f (k / 10) ((48 + k % 10).toUInt8 :: acc)
def mtxt (k : Nat) : ByteArray := ⟨(109 :: decF k k []).toArray⟩
theorem conv_one (W : World) (d : Int) (b : UInt8) (hd : (b.toNat : Int) = d) : (convert 110 9 (.slice (some ⟨W.heap.size, 0, none⟩) 1 1)).run Tryd.prog (W.alloc (.cells #[.int .u8 d] 5)) = .ok (.string ⟨[b].toArray⟩) (W.alloc (.cells #[.int .u8 d] 5)) := by
  refine run_convert_bytes_back (W.alloc (.cells #[.int .u8 d] 5)) 110 9 5 ⟨W.heap.size, 0, none⟩ 1 [b] Tryd.underlying110 Tryd.underlying5 Tryd.underlying9 ?_
  intro j hj
  obtain rfl : j = 0 := by simpa using hj
  have h := cell_new_row W #[.int .u8 d] 5 0
  subst hd
  exact h
theorem cons_bytes (b : UInt8) (acc : List UInt8) : ((⟨#[b]⟩ : ByteArray) ++ ⟨acc.toArray⟩) = ⟨(b :: acc).toArray⟩ := by
  apply ByteArray.ext
  rw [ByteArray.data_append]
  simp
theorem digit_byte (j : Nat) : (((48 + j % 10).toUInt8).toNat : Int) = 48 + (j : Int) % 10 := by
  have h : (48 + j % 10) < 256 := by omega
  simp [Nat.mod_eq_of_lt h]
set_option maxRecDepth 20000 in
set_option maxHeartbeats 100000000 in
theorem markText_any (k : Nat) (w : World) (h0 : 0 < k) (h1 : k ≤ 10000000) :
    Calls Tryd.prog 49 #[.int .i64 k] w fun e w' => e = .returned (.string (mtxt k)) ∧ Below w.heap.size w w' := by
  go_enter Tryd.func49, Tryd.ntmps49
  go_wp2
  go_loopw [0, 3] (fun i o wr => ∃ (j f : Nat) (acc : List UInt8), i = .int .i64 j ∧ j ≤ f ∧ acc.length + j ≤ k ∧ o = .string ⟨acc.toArray⟩ ∧ Below w.heap.size w wr ∧ decF f j acc = decF k k []) (fun i _ _ => (intOf i).toNat)
  case atStart => exact ⟨k, k, [], rfl, Nat.le_refl _, by simp, rfl, Below.refl _ _, rfl⟩
  case round =>
    obtain ⟨j, f, acc, rfl, hf, hj, rfl, hb, hd⟩ := hrel
    have HD := hid hd
    have HB := hid hb
    clear hd hb
    have hal : acc.length ≤ 10000000 := by omega
    by_cases hj0 : 0 < j
    · obtain ⟨f, rfl⟩ : ∃ f', f = f' + 1 := ⟨f - 1, by omega⟩
      have hconv := conv_one wr (48 + (j : Int) % 10) (48 + j % 10).toUInt8 (digit_byte j)
      have NX : Hid (decF f (j / 10) ((48 + j % 10).toUInt8 :: acc) = decF k k []) := by
        show _ = _; rw [← HD.out]; simp only [decF]; rw [if_neg (by omega)]
      generalize (48 + j % 10).toUInt8 = b at *
      go_wp2
      go_roundw
      case rel => exact ⟨j / 10, f, b :: acc, by go_num, by omega, by simp; omega, by rw [cons_bytes], HB.out.alloc HB.out.size _, NX.out⟩
      case measure => simp [intOf]; omega
    · have HE : Hid (decF k k [] = acc) := by
        show _ = _; rw [← HD.out]
        obtain rfl : j = 0 := by omega
        cases f <;> rfl
      go_wp2
      go_ret
      exact ⟨by unfold mtxt; rw [HE.out, ← cons_bytes]; rfl, HB.out⟩
theorem markText_int (a : Int) (w : World) (h0 : 0 < a) (h1 : a ≤ 10000000) :
    Calls Tryd.prog 49 #[.int .i64 a] w fun e w' => e = .returned (.string (mtxt a.toNat)) ∧ Below w.heap.size w w' := by
  obtain ⟨k, rfl⟩ := Int.eq_ofNat_of_zero_le (show 0 ≤ a by omega)
  rw [Int.toNat_natCast]
  exact markText_any k w (by omega) (by omega)
/-- Atoms that are marked. -/
def mkAt (i : Nat) : At := ⟨((1 + 4 * i : Nat) : Int), ((2 + 4 * i : Nat) : Int), mtxt (3 + 4 * i), ((4 + 4 * i : Nat) : Int)⟩
def FillM (W : World) (g N j : Nat) : Prop := (∃ cur, W.heap[g]? = some (.cells cur 51 (0, 0)) ∧ N * 4 ≤ cur.size) ∧ ∀ i, i < j → FourAt W g (i * 4) (mkAt i)
theorem FillM.lt {W : World} {g N j : Nat} (h : FillM W g N j) : g < W.heap.size := by obtain ⟨⟨_, h, _⟩, _⟩ := h; exact (Array.getElem?_eq_some_iff.1 h).1
theorem FillM.next {W W' : World} {g N j : Nat} (h : FillM W g N j) (hb : Below W.heap.size W W') : FillM W' g N j := by
  have hg := h.lt
  obtain ⟨⟨cur, h1, h2⟩, h3⟩ := h
  exact ⟨⟨cur, (hb.block g hg).trans h1, h2⟩, fun i hi => (h3 i hi).below hb hg⟩
theorem room {W : World} {g i : Nat} {cur : Array Value} {t : TypeId} (h : W.heap[g]? = some (.cells cur t (0, 0))) (hi : i < cur.size) : ∃ v, W.cell? ⟨g, i, none⟩ = some v := ⟨cur[i], (cell_hp h i).trans (Array.getElem?_eq_getElem hi)⟩
theorem set_four (cu : Array Value) (j : Nat) (a b c d : Value) (h : j * 4 + 3 < cu.size) :
    let r := (((cu.setIfInBounds (j * 4) a).setIfInBounds (j * 4 + 1) b).setIfInBounds (j * 4 + 2) c).setIfInBounds (j * 4 + 3) d
    r.size = cu.size ∧ r[j * 4]? = some a ∧ r[j * 4 + 1]? = some b ∧ r[j * 4 + 2]? = some c ∧ r[j * 4 + 3]? = some d ∧ ∀ i, i < j * 4 → r[i]? = cu[i]? := by
  intro r
  have h0 : j * 4 < cu.size := by omega
  have h1 : j * 4 + 1 < cu.size := by omega
  have h2 : j * 4 + 2 < cu.size := by omega
  refine ⟨by simp [r], ?_, ?_, ?_, ?_, fun i hi => ?_⟩
  · simp [r, h0]
  · simp [r, h1]
  · simp [r, h2]
  · simp [r, h]
  · have e0 : ¬ j * 4 = i := by omega
    have e1 : ¬ j * 4 + 1 = i := by omega
    have e2 : ¬ j * 4 + 2 = i := by omega
    have e3 : ¬ j * 4 + 3 = i := by omega
    simp [r, e0, e1, e2, e3]
theorem fillM_arr {W0 W : World} {g N j : Nat} {cu : Array Value} {a b c d : Value} (h0 : W0.heap[g]? = some (.cells cu 51 (0, 0))) (hold : ∀ i, i < j → FourAt W0 g (i * 4) (mkAt i)) (hs : N * 4 ≤ cu.size) (hj : j < N)
    (h : W.heap[g]? = some (.cells ((((cu.setIfInBounds (j * 4) a).setIfInBounds (j * 4 + 1) b).setIfInBounds (j * 4 + 2) c).setIfInBounds (j * 4 + 3) d) 51 (0, 0))) (ea : a = .int .i64 (mkAt j).kind) (eb : b = .int .i64 (mkAt j).n) (ec : c = .string (mkAt j).text) (ed : d = .int .i64 (mkAt j).kids) : FillM W g N (j + 1) := by
  obtain ⟨s0, s1, s2, s3, s4, s6⟩ := set_four cu j a b c d (by omega)
  refine ⟨⟨_, h, by rw [s0]; exact hs⟩, fun i hi => ?_⟩
  rcases Nat.lt_or_eq_of_le (Nat.lt_succ_iff.1 hi) with hh | hh
  · obtain ⟨o0, o1, o2, o3⟩ := hold i hh
    rw [cell_hp h0] at o0 o1 o2 o3
    exact ⟨(cell_hp h _).trans ((s6 _ (by omega)).trans o0), (cell_hp h _).trans ((s6 _ (by omega)).trans o1), (cell_hp h _).trans ((s6 _ (by omega)).trans o2), (cell_hp h _).trans ((s6 _ (by omega)).trans o3)⟩
  · subst hh
    exact ⟨(cell_hp h _).trans (s1.trans (by rw [ea])), (cell_hp h _).trans (s2.trans (by rw [eb])), (cell_hp h _).trans (s3.trans (by rw [ec])), (cell_hp h _).trans (s4.trans (by rw [ed]))⟩
set_option maxHeartbeats 2000000 in
theorem markAtoms_any (g N cap : Nat) (w : World) (hN : N ≤ 1048576) (hg : ∃ cur, w.heap[g]? = some (.cells cur 51 (0, 0)) ∧ N * 4 ≤ cur.size) :
    Calls Tryd.prog 31 #[.slice (some ⟨g, 0, none⟩) N cap, .int .i64 1] w fun e w' => e = .returned (.int .i64 (1 + 4 * N : Nat)) ∧ Sv (fun k => k = g) w w' ∧ FillM w' g N N := by
  have HG := hid hg
  clear hg
  go_enter Tryd.func31, Tryd.ntmps31
  go_wp2
  go_loopw [1, 5] (fun k i wr => ∃ (j : Nat), i = .int .i64 j ∧ k = .int .i64 (1 + 4 * j : Nat) ∧ j ≤ N ∧ Sv (fun k => k = g) w wr ∧ FillM wr g N j) (fun _ i _ => N - (intOf i).toNat)
  case atStart => exact ⟨0, rfl, rfl, Nat.zero_le _, Sv.refl _ _, HG.out, fun i h => absurd h (Nat.not_lt_zero _)⟩
  case round =>
    obtain ⟨j, rfl, rfl, hj, hsv, hfi⟩ := hrel
    have HS := hid hsv
    have HFI := hid hfi
    clear hsv hfi
    by_cases hlt : j < N
    · obtain ⟨⟨cu, hh, hcs⟩, hold⟩ := HFI.out
      have HOLD := hid hold
      have HH := hid hh
      have HCS := hid hcs
      have hidx : j * 4 + 3 < cu.size := by omega
      obtain ⟨v0, x0⟩ := room hh (i := j * 4) (by omega)
      obtain ⟨v1, x1⟩ := room hh (i := j * 4 + 1) (by omega)
      have y0 : wr.frozen? ⟨g, j * 4, none⟩ = false := frozen_hp hh _
      have y1 : wr.frozen? ⟨g, j * 4 + 1, none⟩ = false := frozen_hp hh _
      have HTN : Hid ((1 + 4 * (j : Int) + 1 + 1).toNat = 3 + 4 * j) := by show _ = _; omega
      have hgr : g < wr.heap.size := (Array.getElem?_eq_some_iff.1 hh).1
      clear hh hcs hold
      go_wp2_with (go_at_call 49; refine (markText_int _ _ (by omega) (by omega)).mono ?_; rintro e w1 ⟨rfl, hb1⟩; rw [HTN.out]; have HB1 := hid hb1; have hw1 := (hb1.block g (by simp; exact hgr)).trans (set_at _ (set_at _ HH.out)); have y2 : w1.frozen? ⟨g, j * 4 + 2, none⟩ = false := frozen_hp hw1 _; have y3 : w1.frozen? ⟨g, j * 4 + 3, none⟩ = false := frozen_hp hw1 _; obtain ⟨v2, x2⟩ := room hw1 (i := j * 4 + 2) (by simp only [Array.size_setIfInBounds]; omega); obtain ⟨v3, x3⟩ := room hw1 (i := j * 4 + 3) (by simp only [Array.size_setIfInBounds]; omega); have HW1 := hid hw1; clear hb1 hw1)
      have HF := hid (set_at (i := j * 4 + 3) (.int .i64 (1 + 4 * (j : Int) + 1 + 1 + 1)) (set_at (i := j * 4 + 2) (.string (mtxt (3 + 4 * j))) HW1.out))
      have HSV := hid (((((HS.out.setCell (p := ⟨g, j * 4, none⟩) (.inl rfl) (.int .i64 (1 + 4 * (j : Int)))).setCell (p := ⟨g, j * 4 + 1, none⟩) (.inl rfl) (.int .i64 (1 + 4 * (j : Int) + 1))).trans (Sv.of_below HB1.out)).setCell (p := ⟨g, j * 4 + 2, none⟩) (.inl rfl) (.string (mtxt (3 + 4 * j)))).setCell (p := ⟨g, j * 4 + 3, none⟩) (.inl rfl) (.int .i64 (1 + 4 * (j : Int) + 1 + 1 + 1)))
      go_roundw
      case rel => exact ⟨j + 1, by go_num, by go_num, by omega, HSV.out, fillM_arr HH.out HOLD.out HCS.out hlt HF.out (by unfold mkAt; go_num) (by unfold mkAt; go_num) rfl (by unfold mkAt; go_num)⟩
      case measure => simp [intOf]; omega
    · obtain rfl : j = N := by omega
      go_wp2
      go_ret
      exact ⟨ret_int (by omega), HS.out, HFI.out⟩
set_option maxHeartbeats 2000000 in
theorem heldAtoms_any (g N cap : Nat) (w : World) (hN : N ≤ 1048576) (hg : FillM w g N N) :
    Calls Tryd.prog 32 #[.slice (some ⟨g, 0, none⟩) N cap, .int .i64 1] w fun e w' => e = .returned (.int .i64 (1 + 4 * N : Nat)) ∧ Below w.heap.size w w' := by
  have HG := hid hg
  clear hg
  go_enter Tryd.func32, Tryd.ntmps32
  go_wp2
  go_loopw [1, 5] (fun k i wr => ∃ (j : Nat), i = .int .i64 j ∧ k = .int .i64 (1 + 4 * j : Nat) ∧ j ≤ N ∧ Below w.heap.size w wr) (fun _ i _ => N - (intOf i).toNat)
  case atStart => exact ⟨0, rfl, rfl, Nat.zero_le _, Below.refl _ _⟩
  case round =>
    obtain ⟨j, rfl, rfl, hj, hbw⟩ := hrel
    have HBW := hid hbw
    clear hbw
    by_cases hlt : j < N
    · have HF := hid (HG.out.next HBW.out)
      obtain ⟨a0, a1, a2, a3⟩ := HF.out.2 j hlt
      have e0 : (mkAt j).kind = 1 + 4 * (j : Int) := by unfold mkAt; simp
      have e1 : (mkAt j).n = 1 + 4 * (j : Int) + 1 := by unfold mkAt; simp; omega
      have e3 : (mkAt j).kids = 1 + 4 * (j : Int) + 1 + 1 + 1 := by unfold mkAt; simp; omega
      rw [e0] at a0
      rw [e1] at a1
      rw [e3] at a3
      have e2 : (mkAt j).text = mtxt (3 + 4 * j) := rfl
      rw [e2] at a2
      have HTN : Hid ((1 + 4 * (j : Int) + 1 + 1).toNat = 3 + 4 * j) := by show _ = _; omega
      have hgr : g < wr.heap.size := World.block_lt_of_cell? wr _ a0
      clear e0 e1 e2 e3
      go_wp2
      go_region_with (go_at_call 49; refine (markText_int _ _ (by omega) (by omega)).mono ?_; rintro e w1 ⟨rfl, hb1⟩; rw [HTN.out]; have HB1 := hid hb1; have x2 : w1.cell? ⟨g, j * 4 + 2, none⟩ = some (.string (mtxt (3 + 4 * j))) := (hb1.cell (p := ⟨g, j * 4 + 2, none⟩) hgr).trans a2; have x3 : w1.cell? ⟨g, j * 4 + 3, none⟩ = some (.int .i64 (1 + 4 * (j : Int) + 1 + 1 + 1)) := (hb1.cell (p := ⟨g, j * 4 + 3, none⟩) hgr).trans a3; clear hb1)
      all_goals go_wp2
      all_goals
        go_roundw
        case rel => exact ⟨j + 1, by go_num, by go_num, by omega, HBW.out.drew.trans (HB1.out.mono HBW.out.size)⟩
        case measure => simp [intOf]; omega
    · obtain rfl : j = N := by omega
      go_wp2
      go_ret
      exact ⟨ret_int (by omega), HBW.out⟩
set_option maxHeartbeats 1000000 in
theorem markAtoms_nil (ad : Option Addr) (cap : Nat) (w : World) :
    Calls Tryd.prog 31 #[.slice ad 0 cap, .int .i64 1] w fun e w' => e = .returned (.int .i64 1) ∧ w' = w := by
  go_enter Tryd.func31, Tryd.ntmps31
  go_wp2
  go_loop [1, 5] (fun k i => k = .int .i64 1 ∧ i = .int .i64 0) (fun _ _ => 0)
  case atStart => exact ⟨rfl, rfl⟩
  case round =>
    obtain ⟨rfl, rfl⟩ := hrel
    go_wp2
    go_ret
    exact ⟨rfl, rfl⟩
set_option maxHeartbeats 1000000 in
theorem heldAtoms_nil (ad : Option Addr) (cap : Nat) (w : World) :
    Calls Tryd.prog 32 #[.slice ad 0 cap, .int .i64 1] w fun e w' => e = .returned (.int .i64 1) ∧ w' = w := by
  go_enter Tryd.func32, Tryd.ntmps32
  go_wp2
  go_loop [1, 5] (fun k i => k = .int .i64 1 ∧ i = .int .i64 0) (fun _ _ => 0)
  case atStart => exact ⟨rfl, rfl⟩
  case round =>
    obtain ⟨rfl, rfl⟩ := hrel
    go_wp2
    go_ret
    exact ⟨rfl, rfl⟩
/-- A row of marked atoms. -/
def OwnM (W : World) (ad : Option Addr) (N : Nat) : Prop := N = 0 ∨ ∃ g, ad = some ⟨g, 0, none⟩ ∧ FillM W g N N
theorem OwnM.next {W W' : World} {ad : Option Addr} {N : Nat} (h : OwnM W ad N) (hb : Below W.heap.size W W') : OwnM W' ad N := h.imp_right fun ⟨g, e, h1⟩ => ⟨g, e, h1.next hb⟩
theorem markAtoms_gen (ad : Option Addr) (cap N : Nat) (l : List At) (w : World) (hl : l.length = N) (hN : N ≤ 1048576) (h : OwnV w ad l) :
    Calls Tryd.prog 31 #[.slice ad N cap, .int .i64 1] w fun e w' => e = .returned (.int .i64 (1 + 4 * N : Nat)) ∧ Sv (fun k => l ≠ [] ∧ ad = some ⟨k, 0, none⟩) w w' ∧ OwnM w' ad N := by
  by_cases h0 : l = []
  · subst h0
    cases hl
    refine (markAtoms_nil ad cap w).mono ?_
    rintro e w' ⟨rfl, rfl⟩
    exact ⟨rfl, Sv.refl _ _, .inl rfl⟩
  · rcases h with h | ⟨g, rfl, h1⟩
    · exact absurd h h0
    · refine (markAtoms_any g N cap w hN (by rw [← hl]; exact h1.1)).mono ?_
      rintro e w' ⟨rfl, hs, h2⟩
      exact ⟨rfl, ⟨hs.os, hs.tape, hs.output, hs.size, fun k hk hn => hs.block k hk fun e => hn ⟨h0, by rw [e]⟩⟩, .inr ⟨g, rfl, h2⟩⟩
theorem heldAtoms_gen (ad : Option Addr) (cap N : Nat) (w : World) (hN : N ≤ 1048576) (h : OwnM w ad N) :
    Calls Tryd.prog 32 #[.slice ad N cap, .int .i64 1] w fun e w' => e = .returned (.int .i64 (1 + 4 * N : Nat)) ∧ Below w.heap.size w w' := by
  by_cases h0 : N = 0
  · subst h0
    refine (heldAtoms_nil ad cap w).mono ?_
    rintro e w' ⟨rfl, rfl⟩
    exact ⟨rfl, Below.refl _ _⟩
  · rcases h with h | ⟨g, rfl, h1⟩
    · exact absurd h h0
    · exact heldAtoms_any g N cap w hN h1
set_option maxHeartbeats 1000000 in
theorem markValue_gen (ad : Option Addr) (cap N : Nat) (l : List At) (w : World) (hl : l.length = N) (hN : N ≤ 1048576) (h : OwnV w ad l) :
    Calls Tryd.prog 15 #[.agg #[.slice ad N cap], .int .i64 1] w fun e w' => e = .returned (.int .i64 (1 + 4 * N : Nat)) ∧ Sv (fun k => l ≠ [] ∧ ad = some ⟨k, 0, none⟩) w w' ∧ OwnM w' ad N := by
  have HF := hid (markAtoms_gen ad cap N l _ hl hN (h.next ((Below.refl w.heap.size w).alloc (Nat.le_refl _) (.cells #[.slice ad N cap] 29))))
  clear h hl
  go_enter Tryd.func15, Tryd.ntmps15
  go_wp2_with fail
  refine HF.out.mono ?_
  rintro e w1 ⟨rfl, hsv, hfi⟩
  have HS := hid (((Sv.refl (fun k => l ≠ [] ∧ ad = some ⟨k, 0, none⟩) w).alloc _).trans hsv)
  have HFI := hid hfi
  clear hsv hfi
  go_wp2
  go_ret
  exact ⟨rfl, HS.out, HFI.out⟩
set_option maxHeartbeats 1000000 in
theorem heldValue_gen (ad : Option Addr) (cap N : Nat) (w : World) (hN : N ≤ 1048576) (h : OwnM w ad N) :
    Calls Tryd.prog 16 #[.agg #[.slice ad N cap], .int .i64 1] w fun e w' => e = .returned (.int .i64 (1 + 4 * N : Nat)) ∧ Below w.heap.size w w' := by
  have HB0 := hid ((Below.refl w.heap.size w).alloc (Nat.le_refl _) (.cells #[.slice ad N cap] 29))
  have HF := hid (heldAtoms_gen ad cap N _ hN (h.next HB0.out))
  clear h
  go_enter Tryd.func16, Tryd.ntmps16
  go_wp2_with fail
  refine HF.out.mono ?_
  rintro e w1 ⟨rfl, hb⟩
  have HB1 := hid (HB0.out.trans (hb.mono (by simp)))
  clear hb
  go_wp2
  go_ret
  exact ⟨rfl, HB1.out⟩
end Go.Proofs.YtfbfmhmpoaplaaaDoor
