import Derived.Test.YtpligndiomblhaaPlMathS
/-! A look that is answered, by the model. -/
namespace Go.Proofs.Ytpligndiomblhaa.P
open Go.RowKit
open Go.Proofs.Ytpligndiomblhaa.J (Says says_t says_f FileOk Says.pos Says.neg)
open Go.Proofs.Ytpligndiomblhaa.R (hid small set_other Fl fl0 lt_hp hp_next B1 B2 row_cell row_room SFlR OkFlS below_drewN below_set)
set_option maxRecDepth 20000
theorem bytes_ne {a b : ByteArray} (h : ¬ a = b) : (a.toList == b.toList) = false := by
  rw [beq_eq_false_iff_ne]
  intro e
  rw [Lib.toList_data, Lib.toList_data] at e
  exact h (ByteArray.ext (Array.toList_inj.1 e))
/-- Where a name lies among files. -/
def AtEnd (l : List Fl) (t : ByteArray) (w : World) (e : Ending) (w' : World) : Prop := ((∃ i : Nat, e = .returned (.int .i64 i) ∧ i < l.length ∧ findF l t = some (l.getD i fl0)) ∨ (e = .returned (.int .i64 (-1)) ∧ findF l t = none)) ∧ Below w.heap.size w w'
set_option maxHeartbeats 2000000 in
theorem at_any (l : List Fl) (t : ByteArray) {v : Value} {B : Nat} (w : World) (hN : l.length ≤ 1048576) (k0 : SFlR B w v l) :
    Calls Try.prog 30 #[v, .string t] w (AtEnd l t w) := by
  have HK := hid k0
  obtain ⟨g, rfl⟩ := k0.sl
  clear k0
  go_enter Try.func30, Try.ntmps30
  go_wp2
  go_loopw [5] (fun i wr => ∃ k : Nat, k ≤ l.length ∧ i = .int .i64 k ∧ (∀ j, j < k → ¬ (l.getD j fl0).name = t) ∧ wr = w) (fun i _ => l.length - (intOf i).toNat)
  case atStart => exact ⟨0, Nat.zero_le _, rfl, fun i h => absurd h (Nat.not_lt_zero _), rfl⟩
  case round =>
    obtain ⟨k, hk, rfl, hr, rfl⟩ := hrel
    have HR := hid hr
    clear hr
    by_cases hlt : k < l.length
    · obtain ⟨_, a0, _⟩ := fl_at HK.out hlt
      have HF := hid (findF_at l t k hlt)
      have hall : Hid (¬ (l.getD k fl0).name = t → ∀ j, j < k + 1 → ¬ (l.getD j fl0).name = t) := hid fun h => all_step HR.out h
      obtain ⟨x, hxe⟩ : ∃ x, (l.getD k fl0).name = x := ⟨_, rfl⟩
      rw [hxe] at a0 HF hall
      clear hxe
      by_cases he : x = t
      · subst he
        have hb : (x.toList == x.toList) = true := by simp
        have HE := hid (HF.out rfl HR.out)
        go_wp2
        go_ret
        exact ⟨.inl ⟨k, rfl, hlt, HE.out⟩, Below.refl _ _⟩
      · have hb := bytes_ne he
        have HE := hid (hall.out he)
        clear he
        go_wp2
        go_roundw
        case rel => exact ⟨k + 1, by omega, by go_num, HE.out, by trivial⟩
        case measure => simp [intOf]; omega
    · obtain rfl : k = l.length := by omega
      go_wp2
      go_ret
      exact ⟨.inr ⟨rfl, findF_none l t HR.out⟩, Below.refl _ _⟩
theorem prefix_yes {n t : ByteArray} (h : Lib.hasPrefix n.data.toList t.data.toList = true) : t.size ≤ n.size ∧ ((n.extract 0 t.size).toList == t.toList) = true := by
  rw [← Lib.hasPrefix_of_take, ← Lib.size_eq, ← Lib.size_eq, Bool.and_eq_true, decide_eq_true_eq] at h
  refine ⟨h.1, ?_⟩
  rw [Lib.extract_toList, Lib.toList_data]
  simpa using h.2
theorem prefix_no {n t : ByteArray} (h : Lib.hasPrefix n.data.toList t.data.toList = false) (hs : t.size ≤ n.size) : ((n.extract 0 t.size).toList == t.toList) = false := by
  rw [← Lib.hasPrefix_of_take, ← Lib.size_eq, ← Lib.size_eq, decide_eq_true hs, Bool.true_and] at h
  rw [Lib.extract_toList, Lib.toList_data]
  simpa using h
/-- The list so far. -/
def LS (l : List Fl) (t : ByteArray) (j : Nat) (s : ByteArray) : Prop := s.data.toList = lstL t ((nms l).take j) ∧ s.size ≤ j * 61
theorem LS.skip {l : List Fl} {t : ByteArray} {j : Nat} {s : ByteArray} (h : LS l t j s) (hj : j < l.length) (hp : Lib.hasPrefix (l.getD j fl0).name.data.toList t.data.toList = false) : LS l t (j + 1) s := by
  refine ⟨?_, by have := h.2; omega⟩
  rw [lstL_next (by rw [nms_len]; exact hj), nms_get hj]
  unfold pieceL
  rw [if_neg (by rw [hp]; simp), List.append_nil]
  exact h.1
theorem LS.more {l : List Fl} {t : ByteArray} {j : Nat} {s : ByteArray} (h : LS l t j s) (hj : j < l.length) (h60 : (l.getD j fl0).name.size ≤ 60) (hp : Lib.hasPrefix (l.getD j fl0).name.data.toList t.data.toList = true) (u : ByteArray) (hu : u = s ++ (l.getD j fl0).name ++ (⟨#[10]⟩ : ByteArray)) : LS l t (j + 1) u := by
  have hd : u.data.toList = s.data.toList ++ ((l.getD j fl0).name.data.toList ++ [10]) := by rw [hu]; simp
  refine ⟨?_, ?_⟩
  · rw [lstL_next (by rw [nms_len]; exact hj), nms_get hj]
    unfold pieceL
    rw [if_pos hp, hd, h.1]
  · have h1 : u.size = s.size + ((l.getD j fl0).name.size + 1) := by rw [← size_toList u, hd, List.length_append, List.length_append, size_toList, size_toList]; rfl
    have := h.2
    omega
theorem LS.fin {l : List Fl} {t s : ByteArray} (h : LS l t l.length s) : s = ⟨(lstL t (nms l)).toArray⟩ := by
  have h1 := h.1
  rw [← nms_len l, List.take_length] at h1
  apply ByteArray.ext
  rw [← h1]
end Go.Proofs.Ytpligndiomblhaa.P
