import Derived.Test.YtkngjbpbjjoneaaGreatDoorJ35
import Derived.Test.YtkngjbpbjjoneaaGreatDoorJ30
import Derived.Test.YtkngjbpbjjoneaaGreatDoorJ26
import Derived.Test.YtkngjbpbjjoneaaGreatDoorJ08
/-! Printed by gen_rstm.py. -/
namespace Go.Proofs.YtkngjbpbjjoneaaGreatDoor.Q
open Go.RowKit Go.Shelf
set_option maxRecDepth 20000
set_option maxHeartbeats 4000000 in
theorem stm_20 {nd : Nat → Nd} {O : List (List Nat)} {N b cap g co P j : Nat} {op ty n kids : Int} {t : ByteArray} {ks : List Nat} (h : SCtx nd O N b cap g co P j ⟨20, op, ty, n, t, kids⟩ ks) : StmtOk nd O N b cap g co P j := by
  intro W d G hp hG hd
  have H := hid h
  have HP := hid hp
  have HG := hid hG
  have HD := hid hd
  have hN := h.good.hN
  have hj := h.hj
  have HJ := hid hj
  have p0 := hp.c0
  have p1 := hp.c1
  have hpl0 := hp.pl
  have hgl0 := hp.gl
  have hGs : G.size ≤ 24002 := by rw [← len_size, hG, gapB_len]; omega
  have HGN : Hid ((G ++ ⟨#[32, 32]⟩ : ByteArray).data.toList = gapB (d + 1)) := by show _ = _; rw [ba_list, hG, gapB_succ]
  obtain ⟨gk, ck, hc, hgk, ⟨n0, n1, n2, n3, n4, n5⟩, HR⟩ := h.at hp
  dsimp only at n0 n1 n2 n3 n4 n5
  have hpl := (plain_20 _ _ _ _ _).1 h.plain
  have hko := (ko_20 _ _ _ _ _ _ _).1 h.kidsOk
  have HT := hid (h.sv d)
  have HLN := hid (h.good.slen d j hj hd).2
  have hx := h.hx
  have hks := h.hks
  obtain ⟨rfl, rfl, rfl, _⟩ := hpl
  obtain ⟨a, rfl⟩ := List.length_eq_one_iff.1 hko.1
  have HE0 := hid (h.ex (a := a) (by simp) (by have := hko.2; unfold mE; rw [show (nd a).kind = 7 from this]; omega))
  have hl1 : [a].length = 1 := rfl
  rw [hl1] at hc
  clear hl1 h hp hko hG hd
  have HB0 := hid (Below.refl (W.heap.size + 1) (W.alloc (.cells #[.int .i64 20, .int .i64 0, .int .i64 0, .int .i64 0, .string t, .int .i64 kids] 63)))
  have HST : Hid (∀ V V', Below (W.heap.size + 1) (W.alloc (.cells #[.int .i64 20, .int .i64 0, .int .i64 0, .int .i64 0, .string t, .int .i64 kids] 63)) V → Below V.heap.size V V' → Below (W.heap.size + 1) (W.alloc (.cells #[.int .i64 20, .int .i64 0, .int .i64 0, .int .i64 0, .string t, .int .i64 kids] 63)) V') := fun V V' h h2 => h.trans (h2.mono (by have := h.size; simpa using this))
  have H6 : Hid (∀ V, Below (W.heap.size + 1) (W.alloc (.cells #[.int .i64 20, .int .i64 0, .int .i64 0, .int .i64 0, .string t, .int .i64 kids] 63)) V → _) := fun V h => six_new (by simpa using h)
  have HPN : Hid (∀ V, Below (W.heap.size + 1) (W.alloc (.cells #[.int .i64 20, .int .i64 0, .int .i64 0, .int .i64 0, .string t, .int .i64 kids] 63)) V → PenAt nd O N b cap g co P V) := fun V h => HP.out.next (btree h)
  have HRN : Hid (∀ V, Below (W.heap.size + 1) (W.alloc (.cells #[.int .i64 20, .int .i64 0, .int .i64 0, .int .i64 0, .string t, .int .i64 kids] 63)) V → RowAt V 3 gk ck [a].length (intRow [a])) := fun V h => HR.out.below (btree h) hgk
  have r0 := row_int HR.out 0 (by simp)
  have HT1 : Hid (svS nd O d j = tvE nd O a ++ [59]) := HT.out.trans (by unfold sOf; rw [hks]; simp [hx])
  clear HT hx hks
  rw [show [a].getD 0 0 = a from rfl] at r0
  go_enter Tryz.func46, Tryz.ntmps46
  go_wp2_with fail
  refine (HE0.out _ (HPN.out _ HB0.out)).mono ?_
  rintro e w2 ⟨⟨y1, rfl, HY1, hy1⟩, hb1⟩
  have HB1 := hid (HST.out _ _ HB0.out hb1)
  clear hb1
  go_wp2
  go_ret
  have hz := HLN.out
  refine ⟨⟨_, rfl, ?_, ?_⟩, btree HB1.out⟩
  · show _ = _
    rw [HT1.out]; simp [HY1.out]
  · rw [HT1.out] at hz
    rw [← len_size]
    (simp [HY1.out] at hz ⊢) <;> omega
end Go.Proofs.YtkngjbpbjjoneaaGreatDoor.Q
/-! What writing holds and keeps. -/
namespace Go.Proofs.YtkngjbpbjjoneaaGreatDoor.Q
open Go.RowKit Go.Shelf
set_option maxRecDepth 20000
/-- The package's tables, below block 8. -/
structure EnvP (W : World) : Prop where
  sz : 8 ≤ W.heap.size
  tw : ∀ t : Nat, 1 ≤ t → t ≤ 10 → W.cell? ⟨0, t, none⟩ = some (.string ⟨(twB t).toArray⟩)
  bw : ∀ t : Nat, 1 ≤ t → t ≤ 12 → W.cell? ⟨1, t * 2, none⟩ = some (.string ⟨(bwB t).toArray⟩)
  um : ∀ t : Nat, 1 ≤ t → t ≤ 3 → W.cell? ⟨2, t, none⟩ = some (.string ⟨(unB t).toArray⟩)
  om : ∀ t : Nat, 1 ≤ t → t ≤ 18 → W.cell? ⟨3, t * 2, none⟩ = some (.string ⟨(mkB t).toArray⟩)
  tab : Lib.TabBelow Tryz.prog 8 W "internal/strconv.uint64pow10" .u64 Lib.pow10Tab
theorem EnvP.below {W W' : World} (h : EnvP W) (hb : Below 8 W W') : EnvP W' :=
  ⟨Nat.le_trans h.sz hb.size, fun t h1 h2 => (hb.cell (p := ⟨0, _, none⟩) (show (0 : Nat) < 8 by decide)).trans (h.tw t h1 h2), fun t h1 h2 => (hb.cell (p := ⟨1, _, none⟩) (show (1 : Nat) < 8 by decide)).trans (h.bw t h1 h2), fun t h1 h2 => (hb.cell (p := ⟨2, _, none⟩) (show (2 : Nat) < 8 by decide)).trans (h.um t h1 h2), fun t h1 h2 => (hb.cell (p := ⟨3, _, none⟩) (show (3 : Nat) < 8 by decide)).trans (h.om t h1 h2), h.tab.on hb⟩
/-- The writer holds l, or more than is told but no more than l. -/
def WrS (B b d : Nat) (l : List UInt8) (w : World) : Prop := ∃ l' : List UInt8, WrAt B b (.int .i64 d) l' w ∧ (l' = l ∨ 12000 < l'.length ∧ l'.length ≤ l.length)
theorem WrS.next {B b d : Nat} {l : List UInt8} {w w' : World} (h : WrS B b d l w) (hb : Below w.heap.size w w') : WrS B b d l w' := by
  obtain ⟨l', h1, h2⟩ := h
  exact ⟨l', h1.next hb, h2⟩
theorem WrS.lt {B b d : Nat} {l : List UInt8} {w : World} (h : WrS B b d l w) : b < w.heap.size := by obtain ⟨l', h1, _⟩ := h; exact h1.lt
theorem WrS.le {B b d : Nat} {l : List UInt8} {w : World} (h : WrS B b d l w) : B ≤ b := by obtain ⟨l', h1, _⟩ := h; exact h1.le
theorem WrS.blk {B b d : Nat} {l : List UInt8} {w : World} (h : WrS B b d l w) : ∃ cs fr, w.heap[b]? = some (Obj.cells cs 52 fr) := by
  obtain ⟨l', ⟨p, v, _, h1⟩, _⟩ := h
  exact ⟨_, _, h1.blk⟩
theorem WrS.x {B b d : Nat} {l : List UInt8} {w : World} (h : WrS B b d l w) : w.cell? ⟨b, 2, none⟩ = some (.int .i64 d) := by
  obtain ⟨l', ⟨p, v, _, h1⟩, _⟩ := h
  rw [Lib.cell_of_heap h1.blk]; rfl
theorem RowP.wk {B b : Nat} {S : Nat → Prop} {W W' : World} {ad : Option Addr} {xs : List Value} (h : RowP S W ad xs) (hb : Wk B b W W') (hbb : ∃ cs fr, W.heap[b]? = some (Obj.cells cs 52 fr)) : RowP S W' ad xs := h.keep fun g _ _ hS hg => ⟨hS, hb.block g (lt_of_heap hg) (by
  rintro rfl
  obtain ⟨c, f, h2⟩ := hbb
  rw [h2] at hg
  injection hg with hg
  injection hg with _ hg
  exact absurd hg (by decide)) (.inr (NotB.of hg (by decide)))⟩
/-- What stands while a tree is written: the writer in d blocks with l, the parts, the tables. -/
structure St (nd : Nat → Nd) (O : List (List Nat)) (N : Nat) (pv : Nat → Value) (B b d : Nat) (l : List UInt8) (W : World) : Prop where
  hB : 8 ≤ B
  wr : WrS B b d l W
  parts : ∀ i, i < N → PartAt (fun _ => True) W (nd i) (O.getD i []) pv (pv i)
  env : EnvP W
theorem St.next {nd : Nat → Nd} {O : List (List Nat)} {N : Nat} {pv : Nat → Value} {B b d : Nat} {l : List UInt8} {W W' : World} (h : St nd O N pv B b d l W) (hb : Below W.heap.size W W') : St nd O N pv B b d l W' :=
  ⟨h.hB, h.wr.next hb, fun i hi => (h.parts i hi).keep fun _ _ hr => hr.below hb, h.env.below (hb.mono h.env.sz)⟩
theorem St.le {nd : Nat → Nd} {O : List (List Nat)} {N : Nat} {pv : Nat → Value} {B b d : Nat} {l : List UInt8} {W : World} (h : St nd O N pv B b d l W) : B ≤ W.heap.size := Nat.le_of_lt (Nat.lt_of_le_of_lt h.wr.le h.wr.lt)
/-- Behind a writing: the parts and tables are as they were. -/
theorem St.wk {nd : Nat → Nd} {O : List (List Nat)} {N : Nat} {pv : Nat → Value} {B b d d' : Nat} {l l' : List UInt8} {W W' : World} (h : St nd O N pv B b d l W) (hk : Wk B b W W') (hw : WrS B b d' l' W') : St nd O N pv B b d' l' W' :=
  ⟨h.hB, hw, fun i hi => (h.parts i hi).keep fun _ _ hr => hr.wk hk h.wr.blk, h.env.below ((hk.below h.wr.le h.le).mono h.hB)⟩
/-- What a call that writes T leaves. -/
def Wrote (nd : Nat → Nd) (O : List (List Nat)) (N : Nat) (pv : Nat → Value) (B b d : Nat) (l T : List UInt8) (W : World) (e : Ending) (w' : World) : Prop := e = .returned (.tuple #[]) ∧ St nd O N pv B b d (l ++ T) w' ∧ Wk B b W w'
theorem putN {nd : Nat → Nd} {O : List (List Nat)} {N : Nat} {pv : Nat → Value} {B b d : Nat} {l : List UInt8} (ts : List ByteArray) (W : World) (h : St nd O N pv B b d l W) (hn : ts.length ≤ 10) (hlen : l.length + (catL ts).length ≤ 1000000000000) :
    Calls Tryz.prog 30 #[.pointer (some ⟨b, 0, none⟩), .slice (some ⟨W.heap.size, 0, none⟩) ts.length ts.length] (W.alloc (.cells (ts.map Value.string).toArray 9)) (Wrote nd O N pv B b d l (catL ts) W) := by
  have hb0 := (Below.refl W.heap.size W).alloc (Nat.le_refl _) (.cells (ts.map Value.string).toArray 9)
  obtain ⟨l', hw, hl⟩ := h.wr
  have hlt := hw.lt
  have hll : l'.length ≤ l.length := by rcases hl with rfl | ⟨_, h2⟩ <;> omega
  refine (puts_any B b (.int .i64 d) W.heap.size ts.length l' ts ts.length _ rfl (by omega) (hw.next hb0) (by omega) (by omega) (NotB.of (heap_alloc_new W _) (by decide)) (by simp) (fun i hi => ?_)).mono ?_
  · rw [cell_new_row]; simp [hi]
  · rintro e w' ⟨h1, h2, h3⟩
    have hk := (Wk.of_below (B := B) (b := b) hb0).trans h3
    refine ⟨h1, h.wk hk ⟨l' ++ catL ts, h2, ?_⟩, hk⟩
    rcases hl with rfl | ⟨h4, h5⟩
    · exact .inl rfl
    · exact .inr ⟨by rw [List.length_append]; omega, by rw [List.length_append, List.length_append]; omega⟩
theorem catL1 (a : ByteArray) : catL [a] = a.data.toList := by simp [catL]
theorem catL2 (a b : ByteArray) : catL [a, b] = a.data.toList ++ b.data.toList := by simp [catL]
theorem catL3 (a b c : ByteArray) : catL [a, b, c] = a.data.toList ++ b.data.toList ++ c.data.toList := by simp [catL]
theorem put1S {nd : Nat → Nd} {O : List (List Nat)} {N : Nat} {pv : Nat → Value} {B b d : Nat} {l : List UInt8} (s1 : ByteArray) (W : World) (h : St nd O N pv B b d l W) (hlen : l.length + (s1.size) ≤ 1000000000000) :
    Calls Tryz.prog 30 #[.pointer (some ⟨b, 0, none⟩), .slice (some ⟨W.heap.size, 0, none⟩) 1 1] (W.alloc (.cells #[.string s1] 9)) (Wrote nd O N pv B b d l (s1.data.toList) W) := by
  have := putN [s1] W h (by simp) (by rw [catL1, len_size]; omega)
  rw [catL1] at this
  exact this
theorem put2S {nd : Nat → Nd} {O : List (List Nat)} {N : Nat} {pv : Nat → Value} {B b d : Nat} {l : List UInt8} (s1 s2 : ByteArray) (W : World) (h : St nd O N pv B b d l W) (hlen : l.length + (s1.size + s2.size) ≤ 1000000000000) :
    Calls Tryz.prog 30 #[.pointer (some ⟨b, 0, none⟩), .slice (some ⟨W.heap.size, 0, none⟩) 2 2] (W.alloc (.cells #[.string s1, .string s2] 9)) (Wrote nd O N pv B b d l (s1.data.toList ++ s2.data.toList) W) := by
  have := putN [s1, s2] W h (by simp) (by rw [catL2]; simp only [List.length_append, len_size]; omega)
  rw [catL2] at this
  exact this
theorem put3S {nd : Nat → Nd} {O : List (List Nat)} {N : Nat} {pv : Nat → Value} {B b d : Nat} {l : List UInt8} (s1 s2 s3 : ByteArray) (W : World) (h : St nd O N pv B b d l W) (hlen : l.length + (s1.size + s2.size + s3.size) ≤ 1000000000000) :
    Calls Tryz.prog 30 #[.pointer (some ⟨b, 0, none⟩), .slice (some ⟨W.heap.size, 0, none⟩) 3 3] (W.alloc (.cells #[.string s1, .string s2, .string s3] 9)) (Wrote nd O N pv B b d l (s1.data.toList ++ s2.data.toList ++ s3.data.toList) W) := by
  have := putN [s1, s2, s3] W h (by simp) (by rw [catL3]; simp only [List.length_append, len_size]; omega)
  rw [catL3] at this
  exact this
theorem quotedS {nd : Nat → Nd} {O : List (List Nat)} {N : Nat} {pv : Nat → Value} {B b d : Nat} {l : List UInt8} (s : ByteArray) (W : World) (h : St nd O N pv B b d l W) (hs : s.size ≤ 3000) (hlen : l.length ≤ 900000000000) :
    Calls Tryz.prog 77 #[.pointer (some ⟨b, 0, none⟩), .string s] W (Wrote nd O N pv B b d l (quoteL s.data.toList) W) := by
  obtain ⟨l', hw, hl⟩ := h.wr
  have hll : l'.length ≤ l.length := by rcases hl with rfl | ⟨_, h2⟩ <;> omega
  refine (quoted_any B b (.int .i64 d) l' s W hw (by omega) (by omega)).mono ?_
  rintro e w' ⟨h1, h2, h3⟩
  refine ⟨h1, h.wk h3 ⟨_, h2, ?_⟩, h3⟩
  rcases hl with rfl | ⟨h4, h5⟩
  · exact .inl rfl
  · exact .inr ⟨by rw [List.length_append]; omega, by rw [List.length_append, List.length_append]; omega⟩
set_option maxHeartbeats 1000000 in
theorem len_any (B b : Nat) (xw : Value) (l : List UInt8) (w : World) (h : WrAt B b xw l w) :
    Calls Tryz.prog 17 #[.pointer (some ⟨b, 0, none⟩)] w fun e w' => e = .returned (.int .i64 l.length) ∧ w' = w := by
  obtain ⟨p, v, _, h⟩ := h
  obtain ⟨ao, cap, rfl⟩ := own_slice' h.own
  have c1 : w.cell? ⟨b, 1, none⟩ = some (.slice ao l.length cap) := by rw [Lib.cell_of_heap h.blk]; rfl
  clear h
  go_enter Tryz.func17, Tryz.ntmps17
  go_wp2
  go_ret
  exact ⟨rfl, rfl⟩
/-- Len: where it is more than is told, nothing more need be written. -/
theorem lenS {nd : Nat → Nd} {O : List (List Nat)} {N : Nat} {pv : Nat → Value} {B b d : Nat} {l : List UInt8} (W : World) (h : St nd O N pv B b d l W) :
    Calls Tryz.prog 17 #[.pointer (some ⟨b, 0, none⟩)] W fun e w' => (∃ n : Nat, e = .returned (.int .i64 n) ∧ (12000 < n → ∀ T, St nd O N pv B b d (l ++ T) W)) ∧ w' = W := by
  obtain ⟨l', hw, hl⟩ := h.wr
  refine (len_any B b _ l' W hw).mono fun e w' ⟨h1, h2⟩ => ⟨⟨_, h1, fun hn T => ⟨h.hB, ⟨l', hw, .inr ⟨hn, ?_⟩⟩, h.parts, h.env⟩⟩, h2⟩
  rw [List.length_append]
  rcases hl with rfl | ⟨h4, h5⟩ <;> omega
end Go.Proofs.YtkngjbpbjjoneaaGreatDoor.Q
