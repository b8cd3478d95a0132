import Derived.Test.YtpligndiomblhaaPlLay
import Derived.Carry
/-! The box of a place. -/
namespace Go.Proofs.Ytpligndiomblhaa.P
open Go.RowKit
open Go.Proofs.Ytpligndiomblhaa.R (hid set_other Fl fl0 lt_hp hp_next B1 row_cell SFlR)
set_option maxRecDepth 20000
/-- The names of files laid one after the other. -/
def layN (ns : List ByteArray) (l : List Fl) : List ByteArray := l.foldl (fun ns x => putN ns x.name) ns
def layF (f : ByteArray → Option Fl) (l : List Fl) : ByteArray → Option Fl := l.foldl setF f
theorem take_next {l : List Fl} {j : Nat} (h : j < l.length) : l.take (j + 1) = l.take j ++ [l.getD j fl0] := by
  rw [List.take_succ_eq_append_getElem h, List.getD_eq_getElem?_getD, List.getElem?_eq_getElem h]
  rfl
theorem layN_next {ns : List ByteArray} {l : List Fl} {j : Nat} (h : j < l.length) : layN ns (l.take (j + 1)) = putN (layN ns (l.take j)) (l.getD j fl0).name := by
  unfold layN
  rw [take_next h, List.foldl_append]
  rfl
theorem layF_next {f : ByteArray → Option Fl} {l : List Fl} {j : Nat} (h : j < l.length) : layF f (l.take (j + 1)) = setF (layF f (l.take j)) (l.getD j fl0) := by
  unfold layF
  rw [take_next h, List.foldl_append]
  rfl
theorem putN_len (ns : List ByteArray) (t : ByteArray) : (putN ns t).length ≤ ns.length + 1 := by
  unfold putN
  split
  · omega
  · rw [insAt_length (atN_le ns t)]; exact Nat.le_refl _
theorem layN_len (l : List Fl) : ∀ ns : List ByteArray, (layN ns l).length ≤ ns.length + l.length := by
  induction l with
  | nil => intro ns; exact Nat.le_refl _
  | cons x l ih =>
    intro ns
    have h1 := ih (putN ns x.name)
    have h2 := putN_len ns x.name
    show (layN (putN ns x.name) l).length ≤ _
    simp only [List.length_cons]
    omega
def NewEnd (l : List Fl) (w : World) (e : Ending) (w' : World) : Prop := ∃ b v m, e = .returned (.pointer (some ⟨b, 0, none⟩)) ∧ Bx w.heap.size b (layN [] l) (layF (fun _ => none) l) l.length v m w' ∧ Below w.heap.size w w'
/-- The box of names and files, j files laid. -/
structure NB (w : World) (l : List Fl) (j : Nat) (W : World) : Prop where
  lo : Below w.heap.size w W
  bx : ∃ v, Bx w.heap.size (w.heap.size + 1 + 1) (layN [] (l.take j)) (layF (fun _ => none) (l.take j)) j v (w.heap.size + 1) W
set_option maxHeartbeats 4000000 in
theorem new_any (l : List Fl) {pv : Value} {B : Nat} {w : World} (k0 : SFlR B w pv l) (hx : LowF l) (h40 : l.length ≤ 900) :
    Calls Try.prog 32 #[.agg #[pv]] w (NewEnd l w) := by
  have HK := hid k0
  have HX := hid hx
  obtain ⟨g, rfl⟩ := k0.sl
  clear k0 hx
  have HN0 : Hid (NB w l 0 (((w.alloc (.cells #[.slice (some ⟨g, 0, none⟩) l.length l.length] 29)).alloc (.map #[] 0)).alloc (.cells #[.slice none 0 0, .map (some (w.heap.size + 1))] 82))) := hid (by
    have h1 := B1.start w (.cells #[.slice (some ⟨g, 0, none⟩) l.length l.length] 29)
    have a2 : Below (w.alloc (.cells #[.slice (some ⟨g, 0, none⟩) l.length l.length] 29)).heap.size (w.alloc (.cells #[.slice (some ⟨g, 0, none⟩) l.length l.length] 29)) (((w.alloc (.cells #[.slice (some ⟨g, 0, none⟩) l.length l.length] 29)).alloc (.map #[] 0)).alloc (.cells #[.slice none 0 0, .map (some (w.heap.size + 1))] 82)) := ((Below.refl _ _).alloc (Nat.le_refl _) _).alloc (by simp) _
    have h2 := h1.next a2
    refine ⟨h2.lo, _, ?_, ⟨by simp [layN], .inl ⟨rfl, rfl⟩⟩, ?_, by omega, by omega⟩
    · have := heap_alloc_new ((w.alloc (.cells #[.slice (some ⟨g, 0, none⟩) l.length l.length] 29)).alloc (.map #[] 0)) (.cells #[.slice none 0 0, .map (some (w.heap.size + 1))] 82)
      simpa using this
    · have hm := MapF.made (w.alloc (.cells #[.slice (some ⟨g, 0, none⟩) l.length l.length] 29))
      rw [World.size_alloc] at hm
      exact hm.keep (Below.heap_alloc _ _ _ (by simp)))
  have hmm := @run_makeMap Try.prog
  go_enter Try.func32, Try.ntmps32
  go_upto_region 2 with fail
  clear hmm
  obtain ⟨W0, hW0⟩ : ∃ W, ((w.alloc (.cells #[.slice (some ⟨g, 0, none⟩) l.length l.length] 29)).alloc (.map #[] 0)).alloc (.cells #[.slice none 0 0, .map (some (w.heap.size + 1))] 82) = W := ⟨_, rfl⟩
  have k0 : W0.cell? ⟨w.heap.size, 0, none⟩ = some (.slice (some ⟨g, 0, none⟩) l.length l.length) := by
    rw [← hW0]
    exact row_cell ((Below.heap_alloc _ _ _ (by simp; omega)).trans ((Below.heap_alloc _ _ _ (by simp)).trans (heap_alloc_new _ _))) 0
  rw [hW0] at HN0 ⊢
  clear hW0
  go_wp2
  clear k0
  go_loopw [5, 12] (fun _ i wr => ∃ j : Nat, j ≤ l.length ∧ i = .int .i64 j ∧ NB w l j wr) (fun _ i _ => l.length - (intOf i).toNat)
  case atStart => exact ⟨0, Nat.zero_le _, rfl, HN0.out⟩
  case round =>
    obtain ⟨j, hj, rfl, hnb⟩ := hrel
    have HNB := hid hnb
    clear hnb HN0
    by_cases hlt : j < l.length
    · obtain ⟨_, a0, a1⟩ := fl_at (HK.out.next HNB.out.lo) hlt
      have HLO := hid (HX.out.2 j hlt)
      have HNN := hid (layN_next (ns := []) hlt)
      have HNF := hid (layF_next (f := fun _ => none) hlt)
      have HLN : Hid ((layN [] (l.take j)).length ≤ 1000) := hid (by have := layN_len (l.take j) []; simp at this; omega)
      obtain ⟨x, hxe⟩ : ∃ x, l.getD j fl0 = x := ⟨_, rfl⟩
      rw [hxe] at a0 a1 HLO HNN HNF
      clear hxe
      obtain ⟨v, hbx⟩ := HNB.out.bx
      have HA := hid ((Below.refl wr.heap.size wr).alloc (Nat.le_refl _) (.cells #[.string x.name, .string x.text] 55))
      have HBX := hid (hbx.next HA.out)
      have HSZ : Hid (w.heap.size ≤ (wr.alloc (.cells #[.string x.name, .string x.text] 55)).heap.size) := hid (Nat.le_trans HNB.out.lo.size HA.out.size)
      clear hbx
      go_wp2_with fail
      refine (lay_any x HBX.out HSZ.out HLO.out.1 HLN.out (by omega)).mono ?_
      rintro e w2 ⟨rfl, ⟨v', hb2⟩, hlo⟩
      have HNX : Hid (NB w l (j + 1) w2) := hid ⟨(HNB.out.lo.trans (HA.out.mono HNB.out.lo.size)).trans hlo, v', by rw [HNN.out, HNF.out]; exact hb2⟩
      clear hb2 hlo
      go_wp2
      go_roundw
      case rel => exact ⟨j + 1, by omega, by go_num, HNX.out⟩
      case measure => simp [intOf]; omega
    · obtain rfl : j = l.length := by omega
      obtain ⟨v, hbx⟩ := HNB.out.bx
      rw [List.take_length] at hbx
      have HBX := hid hbx
      clear hbx
      go_wp2
      go_ret
      exact ⟨_, v, _, rfl, HBX.out, HNB.out.lo⟩
end Go.Proofs.Ytpligndiomblhaa.P
