import Derived.Test.YtkngjbpbjjoneaaGreatDoorJ40
import Derived.Test.YtkngjbpbjjoneaaGreatDoorJ14
import Derived.Test.YtkngjbpbjjoneaaGreatDoorJ13
/-! Parts with commas between them, in brackets, with a semicolon. Printed by gen_wparted.py. -/
namespace Go.Proofs.YtkngjbpbjjoneaaGreatDoor.Q
open Go.RowKit Go.Shelf
set_option maxRecDepth 20000
/-- write writes T for the part v, where it stands in d blocks. -/
def WriteOk (nd : Nat → Nd) (O : List (List Nat)) (N : Nat) (pv : Nat → Value) (B b d : Nat) (v : Value) (T : List UInt8) : Prop :=
  ∀ (l : List UInt8) (W : World), St nd O N pv B b d l W → l.length + T.length ≤ 100000000000 → Calls Tryz.prog 15 #[.pointer (some ⟨b, 0, none⟩), v] W (Wrote nd O N pv B b d l T W)
theorem join_take_le (tv : Nat → List UInt8) (ks : List Nat) (q : Nat) : (joinOf tv (ks.take q)).length ≤ (joinOf tv ks).length := by
  cases ks with
  | nil => simp [joinOf]
  | cons a r =>
    cases q with
    | zero => simp [joinOf]
    | succ q =>
      simp only [List.take_succ_cons, joinOf, List.length_append]
      have e : (r.flatMap fun j => [44, 32] ++ tv j) = ((r.take q).flatMap fun j => [44, 32] ++ tv j) ++ ((r.drop q).flatMap fun j => [44, 32] ++ tv j) := by rw [← List.flatMap_append, List.take_append_drop]
      rw [e, List.length_append]
      omega
set_option maxHeartbeats 2000000 in
theorem parted_any {nd : Nat → Nd} {O : List (List Nat)} {N : Nat} {pv : Nat → Value} {B b : Nat} {d : Nat} {l : List UInt8} (tv : Nat → List UInt8) (ks : List Nat) (ad : Option Addr) (cap : Nat) (W : World) (h : St nd O N pv B b d l W) (hr : RowP (fun _ => True) W ad (ks.map pv)) (hf : Ifs ks pv) (hkl : ks.length ≤ 12001)
    (hW : ∀ k ∈ ks, WriteOk nd O N pv B b d (pv k) (tv k)) (hl : l.length + (joinOf tv ks).length ≤ 100000000000) :
    Calls Tryz.prog 55 #[.pointer (some ⟨b, 0, none⟩), .slice ad ks.length cap] W (Wrote nd O N pv B b d l (joinOf tv ks) W) := by
  have H := hid h
  have HR := hid hr
  have HF := hid hf
  have HW := hid hW
  have HL : Hid (∀ q, (joinOf tv (ks.take q)).length ≤ (joinOf tv ks).length) := fun q => join_take_le tv ks q
  clear h hr hf hW
  go_enter Tryz.func55, Tryz.ntmps55
  go_wp2
  go_loopw [8] (fun a wr => ∃ q : Nat, q ≤ ks.length ∧ a = .int .i64 q ∧ St nd O N pv B b d (l ++ joinOf tv (ks.take q)) wr ∧ Wk B b W wr) (fun a _ => ks.length - (intOf a).toNat)
  case atStart => exact ⟨0, Nat.zero_le _, rfl, by simpa [joinOf] using H.out, Wk.refl _ _ _⟩
  case round =>
    obtain ⟨q, hq, rfl, hs, hk⟩ := hrel
    have HS := hid hs
    have HK := hid hk
    have hll := HL.out q
    clear hs hk
    by_cases hlt : q < ks.length
    · obtain ⟨g, rfl, hgl, hcell⟩ := (HR.out.wk HK.out H.out.wr.blk).get (by omega)
      have c0 := hcell q hlt
      have e : ks.getD q 0 = ks[q] := by rw [List.getD_eq_getElem?_getD, List.getElem?_eq_getElem hlt]; rfl
      rw [e] at c0
      have HJ := hid (joinOf_snoc tv (ks.take q) ks[q])
      rw [← List.take_succ_eq_append_getElem hlt] at HJ
      have HWK := hid (HW.out ks[q] (List.getElem_mem hlt))
      obtain ⟨T, y, hv⟩ := HF.out ks[q] (List.getElem_mem hlt)
      generalize ks[q] = k at *
      rw [hv] at c0 HWK
      clear hcell e hv
      by_cases h0 : q = 0
      · subst h0
        have HJ0 : Hid (joinOf tv (ks.take (0 + 1)) = tv k) := by have := HJ.out; rw [List.take_zero, if_pos rfl] at this; exact this
        have HS0 : Hid (St nd O N pv B b d l wr) := by
          show St _ _ _ _ _ _ _ _ _
          have := HS.out
          simpa [joinOf] using this
        go_wp2_with (go_at_call 15; refine (HWK.out _ _ HS0.out (by have := HL.out (0 + 1); rw [HJ0.out] at this; omega)).mono ?_; rintro e w2 ⟨rfl, hs2, hk2⟩; have H2 := hid hs2; have HK2 := hid (HK.out.trans hk2); clear hs2 hk2)
        go_wp2
        go_roundw
        case rel => exact ⟨0 + 1, by omega, by go_num, by rw [HJ0.out]; exact H2.out, HK2.out⟩
        case measure => simp [intOf]; omega
      · have hne : ¬ ks.take q = [] := fun e => by
          have := congrArg List.length e
          rw [List.length_take, List.length_nil] at this
          omega
        have HJ0 : Hid (joinOf tv (ks.take (q + 1)) = joinOf tv (ks.take q) ++ [44, 32] ++ tv k) := by have := HJ.out; rw [if_neg hne] at this; exact this
        have hpos : (0 : Int) < q := by omega
        obtain ⟨M, hM⟩ : ∃ M, joinOf tv (ks.take q) = M := ⟨_, rfl⟩
        rw [hM] at HS hll HJ0
        have HN1 := hid (HL.out (q + 1))
        rw [HJ0.out] at HN1
        clear hM hne h0
        go_wp2_with fail
        refine (put1S ⟨#[44, 32]⟩ wr HS.out (by rw [List.length_append]; show _ + 2 ≤ _; omega)).mono ?_
        rintro e w1 ⟨rfl, hs1, hk1⟩
        have H1 := hid hs1
        have HK1 := hid (HK.out.trans hk1)
        clear hs1 hk1
        go_wp2_with fail
        refine (HWK.out _ _ H1.out (by have := HN1.out; simp only [List.length_append] at this ⊢; simp only [List.length_cons, List.length_nil] at this; show _ + _ + 2 + _ ≤ _; omega)).mono ?_
        rintro e w2 ⟨rfl, hs2, hk2⟩
        have H2 := hid hs2
        have HK2 := hid (HK1.out.trans hk2)
        clear hs2 hk2
        go_wp2
        go_roundw
        case rel => exact ⟨q + 1, by omega, by go_num, by rw [HJ0.out]; have := H2.out; simpa using this, HK2.out⟩
        case measure => simp [intOf]; omega
    · obtain rfl : q = ks.length := by omega
      have HT : Hid (ks.take ks.length = ks) := List.take_of_length_le (Nat.le_refl _)
      have HS1 := HS.out
      rw [HT.out] at HS1
      have HS2 := hid HS1
      clear HS1
      go_wp2
      go_end0
      exact ⟨rfl, HS2.out, HK.out⟩
theorem WriteOk.cast {nd : Nat → Nd} {O : List (List Nat)} {N : Nat} {pv : Nat → Value} {B b : Nat} {d : Nat} {v : Value} {T T' : List UInt8} (h : WriteOk nd O N pv B b d v T) (e : T = T') : WriteOk nd O N pv B b d v T' := e ▸ h
set_option maxHeartbeats 1000000 in
theorem bracketed_any {nd : Nat → Nd} {O : List (List Nat)} {N : Nat} {pv : Nat → Value} {B b : Nat} {d : Nat} {l : List UInt8} (tv : Nat → List UInt8) (ks : List Nat) (ad : Option Addr) (cap : Nat) (W : World) (h : St nd O N pv B b d l W) (hr : RowP (fun _ => True) W ad (ks.map pv)) (hf : Ifs ks pv) (hkl : ks.length ≤ 12001)
    (hW : ∀ k ∈ ks, WriteOk nd O N pv B b d (pv k) (tv k)) (hl : l.length + (joinOf tv ks).length + 2 ≤ 100000000000) :
    Calls Tryz.prog 31 #[.pointer (some ⟨b, 0, none⟩), .slice ad ks.length cap] W (Wrote nd O N pv B b d l ([40] ++ joinOf tv ks ++ [41]) W) := by
  have H := hid h
  have HR := hid hr
  have HF := hid hf
  have HW := hid hW
  clear h hr hf hW
  go_enter Tryz.func31, Tryz.ntmps31
  go_wp2_with fail
  refine (put1S ⟨#[40]⟩ W H.out (by show _ + 1 ≤ _; omega)).mono ?_
  rintro e w1 ⟨rfl, hs1, hk1⟩
  have H1 := hid hs1
  have HK1 := hid hk1
  clear hs1 hk1
  go_wp2_with fail
  refine (parted_any tv ks ad cap w1 H1.out (HR.out.wk HK1.out H.out.wr.blk) HF.out hkl HW.out (by rw [List.length_append]; show _ + 1 + _ ≤ _; omega)).mono ?_
  rintro e w2 ⟨rfl, hs2, hk2⟩
  have H2 := hid hs2
  have HK2 := hid (HK1.out.trans hk2)
  clear hs2 hk2
  go_wp2_with fail
  refine (put1S ⟨#[41]⟩ w2 H2.out (by simp only [List.length_append]; show _ + 1 + _ + 1 ≤ _; omega)).mono ?_
  rintro e w3 ⟨rfl, hs3, hk3⟩
  have H3 := hid hs3
  have HK3 := hid (HK2.out.trans hk3)
  clear hs3 hk3
  go_wp2
  go_end0
  exact ⟨rfl, by have := H3.out; simpa using this, HK3.out⟩
set_option maxHeartbeats 1000000 in
theorem ended_any {nd : Nat → Nd} {O : List (List Nat)} {N : Nat} {pv : Nat → Value} {B b : Nat} {d : Nat} {l : List UInt8} (s : ByteArray) (tv : Nat → List UInt8) (ks : List Nat) (ad : Option Addr) (cap : Nat) (W : World) (h : St nd O N pv B b d l W) (hr : RowP (fun _ => True) W ad (ks.map pv)) (hf : Ifs ks pv) (hkl : ks.length ≤ 12001) 
    (hW : ∀ k ∈ ks, WriteOk nd O N pv B b d (pv k) (tv k)) (hl : l.length + s.size + (joinOf tv ks).length + 1 ≤ 100000000000) :
    Calls Tryz.prog 57 #[.pointer (some ⟨b, 0, none⟩), .string s, .slice ad ks.length cap] W (Wrote nd O N pv B b d l (s.data.toList ++ joinOf tv ks ++ [59]) W) := by
  have H := hid h
  have HR := hid hr
  have HF := hid hf
  have HW := hid hW
  clear h hr hf hW
  go_enter Tryz.func57, Tryz.ntmps57
  go_wp2_with fail
  refine (put1S s W H.out (by omega)).mono ?_
  rintro e w1 ⟨rfl, hs1, hk1⟩
  have H1 := hid hs1
  have HK1 := hid hk1
  clear hs1 hk1
  go_wp2_with fail
  refine (parted_any tv ks ad cap w1 H1.out (HR.out.wk HK1.out H.out.wr.blk) HF.out hkl HW.out (by rw [List.length_append, len_size]; omega)).mono ?_
  rintro e w2 ⟨rfl, hs2, hk2⟩
  have H2 := hid hs2
  have HK2 := hid (HK1.out.trans hk2)
  clear hs2 hk2
  go_wp2_with fail
  refine (put1S ⟨#[59]⟩ w2 H2.out (by simp only [List.length_append, len_size]; show _ + _ + _ + 1 ≤ _; omega)).mono ?_
  rintro e w3 ⟨rfl, hs3, hk3⟩
  have H3 := hid hs3
  have HK3 := hid (HK2.out.trans hk3)
  clear hs3 hk3
  go_wp2
  go_end0
  exact ⟨rfl, by have := H3.out; simpa using this, HK3.out⟩
theorem row_alloc (pv : Nat → Value) (ks : List Nat) (V : World) : RowP (fun _ => True) (V.alloc (.cells (ks.map pv).toArray 55)) (some ⟨V.heap.size, 0, none⟩) (ks.map pv) := .inr ⟨_, rfl, trivial, ⟨_, _, heap_alloc_new V _⟩, fun i u h => by rw [cell_new_row, ← h]; simp⟩
theorem alloc_wrote {nd : Nat → Nd} {O : List (List Nat)} {N : Nat} {pv : Nat → Value} {B b : Nat} {d : Nat} {l T : List UInt8} {V : World} {X : Obj} {e : Ending} {w' : World} (h : Wrote nd O N pv B b d l T (V.alloc X) e w') : Wrote nd O N pv B b d l T V e w' := ⟨h.1, h.2.1, (Wk.of_below ((Below.refl V.heap.size V).alloc (Nat.le_refl _) X)).trans h.2.2⟩
theorem bracketed1 {nd : Nat → Nd} {O : List (List Nat)} {N : Nat} {pv : Nat → Value} {B b : Nat} {d : Nat} {l T : List UInt8} (k : Nat) (V : World) (h : St nd O N pv B b d l V) (hf : ∃ T y, pv k = .iface T y) (hW : WriteOk nd O N pv B b d (pv k) T) (hl : l.length + T.length + 2 ≤ 100000000000) :
    Calls Tryz.prog 31 #[.pointer (some ⟨b, 0, none⟩), .slice (some ⟨V.heap.size, 0, none⟩) 1 1] (V.alloc (.cells #[pv k] 55)) (Wrote nd O N pv B b d l ([40] ++ T ++ [41]) V) := by
  have := bracketed_any (fun _ => T) [k] _ 1 _ (h.next ((Below.refl V.heap.size V).alloc (Nat.le_refl _) _)) (row_alloc pv [k] V) (fun c hc => by simp at hc; subst hc; exact hf) (by simp) (fun c hc => by simp at hc; subst hc; exact hW) (by simpa [joinOf] using hl)
  have e : joinOf (fun _ => T) [k] = T := by simp [joinOf]
  rw [e] at this
  exact this.mono fun _ _ h => alloc_wrote h
theorem ended0 {nd : Nat → Nd} {O : List (List Nat)} {N : Nat} {pv : Nat → Value} {B b : Nat} {d : Nat} {l : List UInt8} (s : ByteArray) (V : World) (h : St nd O N pv B b d l V) (hl : l.length + s.size + 1 ≤ 100000000000) :
    Calls Tryz.prog 57 #[.pointer (some ⟨b, 0, none⟩), .string s, .slice none 0 0] V (Wrote nd O N pv B b d l (s.data.toList ++ [59]) V) := by
  have := ended_any s (fun _ => []) [] none 0 V h (.inl rfl) (fun c hc => by cases hc) (by simp) (fun c hc => by cases hc) (by simpa [joinOf] using hl)
  have e : joinOf (fun _ => []) [] = [] := rfl
  rw [e, List.append_nil] at this
  exact this
theorem ended1 {nd : Nat → Nd} {O : List (List Nat)} {N : Nat} {pv : Nat → Value} {B b : Nat} {d : Nat} {l T : List UInt8} (s : ByteArray) (k : Nat) (V : World) (h : St nd O N pv B b d l V) (hf : ∃ T y, pv k = .iface T y) (hW : WriteOk nd O N pv B b d (pv k) T) (hl : l.length + s.size + T.length + 1 ≤ 100000000000) :
    Calls Tryz.prog 57 #[.pointer (some ⟨b, 0, none⟩), .string s, .slice (some ⟨V.heap.size, 0, none⟩) 1 1] (V.alloc (.cells #[pv k] 55)) (Wrote nd O N pv B b d l (s.data.toList ++ T ++ [59]) V) := by
  have := ended_any s (fun _ => T) [k] _ 1 _ (h.next ((Below.refl V.heap.size V).alloc (Nat.le_refl _) _)) (row_alloc pv [k] V) (fun c hc => by simp at hc; subst hc; exact hf) (by simp) (fun c hc => by simp at hc; subst hc; exact hW) (by simpa [joinOf] using hl)
  have e : joinOf (fun _ => T) [k] = T := by simp [joinOf]
  rw [e] at this
  exact this.mono fun _ _ h => alloc_wrote h
theorem ended2 {nd : Nat → Nd} {O : List (List Nat)} {N : Nat} {pv : Nat → Value} {B b : Nat} {d : Nat} {l : List UInt8} (s : ByteArray) (tv : Nat → List UInt8) (k c : Nat) (V : World) (h : St nd O N pv B b d l V) (hf : Ifs [k, c] pv) (hW : ∀ x ∈ [k, c], WriteOk nd O N pv B b d (pv x) (tv x)) (hl : l.length + s.size + (joinOf tv [k, c]).length + 1 ≤ 100000000000) :
    Calls Tryz.prog 57 #[.pointer (some ⟨b, 0, none⟩), .string s, .slice (some ⟨V.heap.size, 0, none⟩) 2 2] (V.alloc (.cells #[pv k, pv c] 55)) (Wrote nd O N pv B b d l (s.data.toList ++ joinOf tv [k, c] ++ [59]) V) := by
  have := ended_any s tv [k, c] _ 2 _ (h.next ((Below.refl V.heap.size V).alloc (Nat.le_refl _) _)) (row_alloc pv [k, c] V) hf (by simp) hW hl
  exact this.mono fun _ _ h => alloc_wrote h
end Go.Proofs.YtkngjbpbjjoneaaGreatDoor.Q
/-! Printed by gen_we.py. -/
namespace Go.Proofs.YtkngjbpbjjoneaaGreatDoor.Q
open Go.RowKit Go.Shelf
set_option maxRecDepth 20000
theorem fmtB_false (w : World) : Calls Tryz.prog 78 #[.bool false] w fun e w' => e = .returned (.string ⟨#[102, 97, 108, 115, 101]⟩) ∧ Below w.heap.size w w' := (fmtB_any false w).mono fun _ _ ⟨h1, h2⟩ => ⟨h1, h2 ▸ Below.refl _ _⟩
theorem fmtB_true (w : World) : Calls Tryz.prog 78 #[.bool true] w fun e w' => e = .returned (.string ⟨#[116, 114, 117, 101]⟩) ∧ Below w.heap.size w w' := (fmtB_any true w).mono fun _ _ ⟨h1, h2⟩ => ⟨h1, h2 ▸ Below.refl _ _⟩
/-- f writes T for the part v, where it stands in d blocks. -/
def CallOk (f : FuncId) (nd : Nat → Nd) (O : List (List Nat)) (N : Nat) (pv : Nat → Value) (B b d : Nat) (v : Value) (T : List UInt8) : Prop :=
  ∀ (l : List UInt8) (W : World), St nd O N pv B b d l W → l.length + T.length ≤ 100000000000 → Calls Tryz.prog f #[.pointer (some ⟨b, 0, none⟩), v] W (Wrote nd O N pv B b d l T W)
/-- A node of the tree, and its kids. -/
structure PCtx (nd : Nat → Nd) (O : List (List Nat)) (N j : Nat) (x : Nd) (ks : List Nat) : Prop where
  good : Good nd O N
  hj : j < N
  hx : nd j = x
  hks : O.getD j [] = ks
  plain : PlainNd x
  kidsOk : KidsOk x ks.length (fun i => (nd (ks.getD i 0)).kind)
theorem PCtx.lt {nd : Nat → Nd} {O : List (List Nat)} {N j : Nat} {x : Nd} {ks : List Nat} (h : PCtx nd O N j x ks) {a : Nat} (ha : a ∈ ks) : a < j := h.good.down j a (by rw [h.hks]; exact ha)
theorem PCtx.part {nd : Nat → Nd} {O : List (List Nat)} {N j : Nat} {x : Nd} {ks : List Nat} (h : PCtx nd O N j x ks) {pv : Nat → Value} {B b d : Nat} {l : List UInt8} {W : World} (hs : St nd O N pv B b d l W) : PartAt (fun _ => True) W x ks pv (pv j) := by
  have := hs.parts j h.hj
  rw [h.hx, h.hks] at this
  exact this
theorem PCtx.ifs {nd : Nat → Nd} {O : List (List Nat)} {N j : Nat} {x : Nd} {ks : List Nat} (h : PCtx nd O N j x ks) {pv : Nat → Value} {B b d : Nat} {l : List UInt8} {W : World} (hs : St nd O N pv B b d l W) : Ifs ks pv := fun k hk => (hs.parts k (by have := h.lt hk; have := h.hj; omega)).iface
theorem PCtx.tv {nd : Nat → Nd} {O : List (List Nat)} {N j : Nat} {x : Nd} {ks : List Nat} (h : PCtx nd O N j x ks) : tvE nd O j = eOf nd x ks (tvE nd O) := by rw [tvE_eq h.good.down, h.hx, h.hks]
theorem box_keep {B b : Nat} {W V : World} {cs : Array Value} {t : TypeId} (ht : t ≠ 5) (hb : b < W.heap.size) (h : Wk B b (W.alloc (.cells cs t)) V) (i : Nat) : V.cell? ⟨W.heap.size, i, none⟩ = cs[i]? := by
  rw [h.cell (p := ⟨W.heap.size, i, none⟩) (by simp) (show W.heap.size ≠ b by omega) (.inr (NotB.of (heap_alloc_new W _) ht)), cell_new_row]
end Go.Proofs.YtkngjbpbjjoneaaGreatDoor.Q
/-! Printed by gen_we.py. -/
namespace Go.Proofs.YtkngjbpbjjoneaaGreatDoor.Q
open Go.RowKit Go.Shelf
set_option maxRecDepth 20000
set_option maxHeartbeats 4000000 in
theorem we_1 {nd : Nat → Nd} {O : List (List Nat)} {N : Nat} {pv : Nat → Value} {B b d : Nat} {j : Nat} {op ty n kids : Int} {t : ByteArray} {ks : List Nat} (C : PCtx nd O N j ⟨1, op, ty, n, t, kids⟩ ks) : CallOk 58 nd O N pv B b d (pv j) (tvE nd O j) := by
  intro l W h hl
  have H := hid h
  have HC := hid C
  have hpl := (plain_1 _ _ _ _ _).1 C.plain
  have hko := (ko_1 _ _ _ _ _ _ _).1 C.kidsOk
  have hbl := h.wr.lt
  have hv := pa_1.1 (C.part h)
  rw [hv]
  clear hv
  clear h C
  obtain ⟨rfl, _, T, rfl, hT3, hT10, _⟩ := hpl
  clear hko
  obtain ⟨u, hu⟩ : ∃ u : Nat, IntKind.u64.wrap n = (u : Int) := ⟨(IntKind.u64.wrap n).toNat, by have := IntKind.wrap_u64 n; omega⟩
  have hu2 : u < 18446744073709551616 := by have := IntKind.wrap_u64 n; omega
  have hud := decDigits_len u hu2
  have H0 := hid (H.out.next ((Below.refl W.heap.size W).alloc (Nat.le_refl _) (.cells #[.int .i64 (T : Int), .int .i64 n] 139)))
  have HK0 := hid (Wk.refl B b (W.alloc (.cells #[.int .i64 (T : Int), .int .i64 n] 139)))
  have HX : Hid (∀ V, Wk B b (W.alloc (.cells #[.int .i64 (T : Int), .int .i64 n] 139)) V → V.cell? ⟨W.heap.size, 0, none⟩ = some (.int .i64 (T : Int)) ∧ V.cell? ⟨W.heap.size, 1, none⟩ = some (.int .i64 n)) := fun V h => ⟨box_keep (by decide) hbl h 0, box_keep (by decide) hbl h 1⟩
  have HWK : Hid (∀ V, Wk B b (W.alloc (.cells #[.int .i64 (T : Int), .int .i64 n] 139)) V → Wk B b W V) := fun V h => (Wk.of_below ((Below.refl W.heap.size W).alloc (Nat.le_refl _) (.cells #[.int .i64 (T : Int), .int .i64 n] 139))).trans h
  by_cases h10 : T = 10
  · subst h10
    have HT : Hid (tvE nd O j = Lib.decDigits u) := HC.out.tv.trans (by simp [eOf, hu])
    rw [HT.out] at hl ⊢
    have hcast : ((10 : Nat) : Int) = 10 := rfl
    rw [hcast] at H0 HK0 HX HWK ⊢
    clear hcast
    have HL1 : Hid (l.length + (⟨(Lib.decDigits u).toArray⟩ : ByteArray).size ≤ 1000000000000) := by
      show _ + (Lib.decDigits u).toArray.size ≤ _
      rw [List.size_toArray]
      omega
    have t1 := ta_1
    go_enter Tryz.func58, Tryz.ntmps58
    go_wp2_with fail
    obtain ⟨w0, hw0⟩ : ∃ w0, W.alloc (.cells #[.int .i64 10, .int .i64 n] 139) = w0 := ⟨_, rfl⟩
    obtain ⟨gx, hgx⟩ : ∃ gx, W.heap.size = gx := ⟨_, rfl⟩
    have HGX := hid hgx
    have HW0 := hid hw0
    have hgl0 : gx < w0.heap.size := by rw [← hw0, ← hgx]; simp
    rw [hw0] at H0 HK0 HX HWK
    rw [hgx] at HX
    rw [hw0, hgx]
    clear hw0 hgx
    have HD0 := hid (H0.out.next (Below.refl (w0).heap.size (w0)).drew)
    have HKD0 := hid (HK0.out.trans (Wk.of_below (Below.refl (w0).heap.size (w0)).drew))
    have HKA0 := hid (fun X => HK0.out.trans (Wk.of_below (((Below.refl (w0).heap.size (w0)).alloc (Nat.le_refl _) X).drew)))
    have HSA0 := hid (fun X => H0.out.next (((Below.refl (w0).heap.size (w0)).alloc (Nat.le_refl _) X).drew))
    go_region_held3 (fun V => V.cell? ⟨gx, 0, none⟩ = some (.int .i64 10) ∧ V.cell? ⟨gx, 1, none⟩ = some (.int .i64 n)) (first | (exact HX.out _ HK1.out) | (exact HX.out _ (HKB0.out _)) | (exact HX.out _ HKM0.out) | (exact HX.out _ (HKA0.out _)) | (exact HX.out _ HKD0.out) | go_keep) (first
      | (go_at_call 76; refine (fmtU_any u hu2 _ HD0.out.env.tab.here).mono ?_; rintro e wm ⟨rfl, hbm⟩; have HM0 := hid (HD0.out.next hbm); have HKM0 := hid (HKD0.out.trans (Wk.of_below hbm)); have HKB0 := hid (fun X => HKM0.out.trans (Wk.of_below ((Below.refl wm.heap.size wm).alloc (Nat.le_refl _) X))); have HSB0 := hid (fun X => HM0.out.next ((Below.refl wm.heap.size wm).alloc (Nat.le_refl _) X)); clear hbm)
      | (go_at_call 30; refine (put1S ⟨(Lib.decDigits u).toArray⟩ wm HM0.out HL1.out).mono ?_; rintro e w1 ⟨rfl, hs, hk⟩; have H1 := hid hs; have HK1 := hid (HKM0.out.trans hk); clear hs hk)
      | fail)
    have x0 := (HX.out _ HK1.out).1
    go_wp2
    go_end0
    exact ⟨rfl, by have := H1.out; exact this, HWK.out _ HK1.out⟩
  · have h10' : ((T : Int) == 10) = false := by simpa using (by omega : ¬ (T : Int) = 10)
    have HT : Hid (tvE nd O j = Lib.decDigits u ++ twB T) := HC.out.tv.trans (by simp [eOf, hu]; omega)
    rw [HT.out] at hl ⊢
    rw [List.length_append] at hl
    have HL1 : Hid (l.length + (⟨(Lib.decDigits u).toArray⟩ : ByteArray).size ≤ 1000000000000) := by
      show _ + (Lib.decDigits u).toArray.size ≤ _
      rw [List.size_toArray]
      omega
    have i1 : (T : Int) < 11 := by omega
    have i0 : (0 : Int) ≤ (T : Int) := by omega
    clear h10
    obtain ⟨Y, hY⟩ : ∃ Y : ByteArray, (⟨(twB (T : Int)).toArray⟩ : ByteArray) = Y := ⟨_, rfl⟩
    have HY : Hid (Y.data.toList = twB (T : Int)) := by show _ = _; rw [← hY]
    have HEN : Hid (∀ V, EnvP V → V.cell? ⟨0, T, none⟩ = some (.string Y)) := fun V hV => by rw [← hY]; exact hV.tw T (by omega) (by omega)
    have hYs : Y.size ≤ 4 := by rw [← len_size, HY.out]; exact twB_len _
    clear hY
    have t1 := ta_1
    go_enter Tryz.func58, Tryz.ntmps58
    go_wp2_with fail
    obtain ⟨w0, hw0⟩ : ∃ w0, W.alloc (.cells #[.int .i64 (T : Int), .int .i64 n] 139) = w0 := ⟨_, rfl⟩
    obtain ⟨gx, hgx⟩ : ∃ gx, W.heap.size = gx := ⟨_, rfl⟩
    have HGX := hid hgx
    have HW0 := hid hw0
    have hgl0 : gx < w0.heap.size := by rw [← hw0, ← hgx]; simp
    rw [hw0] at H0 HK0 HX HWK
    rw [hgx] at HX
    rw [hw0, hgx]
    clear hw0 hgx
    have HD0 := hid (H0.out.next (Below.refl (w0).heap.size (w0)).drew)
    have HKD0 := hid (HK0.out.trans (Wk.of_below (Below.refl (w0).heap.size (w0)).drew))
    have HKA0 := hid (fun X => HK0.out.trans (Wk.of_below (((Below.refl (w0).heap.size (w0)).alloc (Nat.le_refl _) X).drew)))
    have HSA0 := hid (fun X => H0.out.next (((Below.refl (w0).heap.size (w0)).alloc (Nat.le_refl _) X).drew))
    go_region_held3 (fun V => V.cell? ⟨gx, 0, none⟩ = some (.int .i64 (T : Int)) ∧ V.cell? ⟨gx, 1, none⟩ = some (.int .i64 n)) (first | (exact HX.out _ HK1.out) | (exact HX.out _ (HKB0.out _)) | (exact HX.out _ HKM0.out) | (exact HX.out _ (HKA0.out _)) | (exact HX.out _ HKD0.out) | go_keep) (first
      | (go_at_call 76; refine (fmtU_any u hu2 _ HD0.out.env.tab.here).mono ?_; rintro e wm ⟨rfl, hbm⟩; have HM0 := hid (HD0.out.next hbm); have HKM0 := hid (HKD0.out.trans (Wk.of_below hbm)); have HKB0 := hid (fun X => HKM0.out.trans (Wk.of_below ((Below.refl wm.heap.size wm).alloc (Nat.le_refl _) X))); have HSB0 := hid (fun X => HM0.out.next ((Below.refl wm.heap.size wm).alloc (Nat.le_refl _) X)); clear hbm)
      | (go_at_call 30; refine (put1S ⟨(Lib.decDigits u).toArray⟩ wm HM0.out HL1.out).mono ?_; rintro e w1 ⟨rfl, hs, hk⟩; have H1 := hid hs; have HK1 := hid (HKM0.out.trans hk); clear hs hk)
      | fail)
    have x0 := (HX.out _ HK1.out).1
    go_wp2_with fail
    have HD1 := hid (H1.out.next (Below.refl (w1).heap.size (w1)).drew)
    have HKD1 := hid (HK1.out.trans (Wk.of_below (Below.refl (w1).heap.size (w1)).drew))
    have HKA1 := hid (fun X => HK1.out.trans (Wk.of_below (((Below.refl (w1).heap.size (w1)).alloc (Nat.le_refl _) X).drew)))
    have HSA1 := hid (fun X => H1.out.next (((Below.refl (w1).heap.size (w1)).alloc (Nat.le_refl _) X).drew))
    go_region_held3 (fun V => (V.cell? ⟨gx, 0, none⟩ = some (.int .i64 (T : Int)) ∧ V.cell? ⟨gx, 1, none⟩ = some (.int .i64 n)) ∧ V.cell? ⟨0, T, none⟩ = some (.string Y)) (first | (exact ⟨HX.out _ HK2.out, HEN.out _ (H2.out).env⟩) | (exact ⟨HX.out _ (HKB1.out _), HEN.out _ (HSB1.out _).env⟩) | (exact ⟨HX.out _ HKM1.out, HEN.out _ (HM1.out).env⟩) | (exact ⟨HX.out _ (HKA1.out _), HEN.out _ (HSA1.out _).env⟩) | (exact ⟨HX.out _ HKD1.out, HEN.out _ (HD1.out).env⟩) | go_keep) (first
      | (go_at_call 30; refine (put1S Y _ HD1.out (by have := hud; simp only [List.length_append]; show _ + (Lib.decDigits u).length + _ ≤ _; omega)).mono ?_; rintro e w2 ⟨rfl, hs, hk⟩; have H2 := hid hs; have HK2 := hid (HKD1.out.trans hk); clear hs hk)
      | fail)
    go_wp2
    go_end0
    exact ⟨rfl, by have := H2.out; simpa [HY.out] using this, HWK.out _ HK2.out⟩
end Go.Proofs.YtkngjbpbjjoneaaGreatDoor.Q
