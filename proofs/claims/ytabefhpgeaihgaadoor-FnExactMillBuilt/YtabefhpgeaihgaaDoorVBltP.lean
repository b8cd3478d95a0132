import Derived.Test.YtabefhpgeaihgaaDoorVArgI
import Derived.Test.YtabefhpgeaihgaaDoorVNumS
/-! What a built word comes to. Printed by gen_vblt.py. -/
namespace Go.Proofs.YtabefhpgeaihgaaDoor.V
open Go.RowKit Go.Shelf
set_option maxRecDepth 20000
def wRange : ByteArray := ⟨#[114, 97, 110, 103, 101]⟩
def wNumber : ByteArray := ⟨#[110, 117, 109, 98, 101, 114]⟩
/-- What a built word with args that fit comes to. -/
def BltOk (op : Int) (a b c : Vl) (y z : Int) (st wd : ByteArray) : Prop :=
  (op = 6 ∧ y = 10 ∧ z = a.s.size ∧ st = wNone ∧ wd = wNone) ∨
  (op = 7 ∧ ((∃ (i : Nat) (h : i < a.s.size), b.n = i ∧ y = 3 ∧ z = (a.s[i].toNat : Int) ∧ st = wNone ∧ wd = wNone) ∨ (¬ (0 ≤ b.n ∧ b.n < a.s.size) ∧ y = 0 ∧ z = 0 ∧ st = wNone ∧ wd = wRange))) ∨
  (op = 8 ∧ ((∃ i j : Nat, b.n = i ∧ c.n = j ∧ i ≤ j ∧ j ≤ a.s.size ∧ y = 2 ∧ z = 0 ∧ st = a.s.extract i j ∧ wd = wNone) ∨ (¬ (0 ≤ b.n ∧ b.n ≤ c.n ∧ c.n ≤ a.s.size) ∧ y = 0 ∧ z = 0 ∧ st = wNone ∧ wd = wRange))) ∨
  (op = 9 ∧ y = 10 ∧ z = Lib.index a.s.data.toList b.s.data.toList ∧ st = wNone ∧ wd = wNone) ∨
  (op = 10 ∧ y = 2 ∧ z = 0 ∧ st = ⟨#[UInt8.ofNat a.n.toNat]⟩ ∧ wd = wNone) ∨
  (op = 11 ∧ y = 2 ∧ z = 0 ∧ st = ⟨(decT a.t a.n).toArray⟩ ∧ wd = wNone) ∨
  (op = 12 ∧ ((∃ n : Int, Lib.itoa n = a.s.data.toList ∧ (-9223372036854775808 ≤ n ∧ n ≤ 9223372036854775807) ∧ y = 10 ∧ z = n ∧ st = wNone ∧ wd = wNone) ∨ ((∀ m : Int, -9223372036854775808 ≤ m → m ≤ 9223372036854775807 → Lib.itoa m ≠ a.s.data.toList) ∧ y = 0 ∧ z = 0 ∧ st = wNone ∧ wd = wNumber)))
def Fits (op : Int) (N : Nat) (vl : Nat → Vl) : Prop := 6 ≤ op ∧ op ≤ 12 ∧ OkArgs (-1) op N vl
def BltRes (op : Int) (N : Nat) (vl : Nat → Vl) (y z : Int) (st wd : ByteArray) : Prop :=
  (¬ Fits op N vl ∧ y = 0 ∧ z = 0 ∧ st = wNone ∧ wd = wType) ∨ (Fits op N vl ∧ BltOk op (vl 0) (vl 1) (vl 2) y z st wd)
theorem BltOk.uniq {op : Int} {a b c : Vl} {y z y' z' : Int} {st wd st' wd' : ByteArray} (h : BltOk op a b c y z st wd) (k : BltOk op a b c y' z' st' wd') : y = y' ∧ z = z' ∧ st = st' ∧ wd = wd' := by
  rcases h with ⟨ho, h⟩ | ⟨ho, h⟩ | ⟨ho, h⟩ | ⟨ho, h⟩ | ⟨ho, h⟩ | ⟨ho, h⟩ | ⟨ho, h⟩ <;> rcases k with ⟨ko, k⟩ | ⟨ko, k⟩ | ⟨ko, k⟩ | ⟨ko, k⟩ | ⟨ko, k⟩ | ⟨ko, k⟩ | ⟨ko, k⟩ <;> first | (exfalso; omega) | skip
  · obtain ⟨rfl, rfl, rfl, rfl⟩ := h; obtain ⟨rfl, rfl, rfl, rfl⟩ := k; exact ⟨rfl, rfl, rfl, rfl⟩
  · rcases h with ⟨i, hi, e, rfl, rfl, rfl, rfl⟩ | ⟨hn, rfl, rfl, rfl, rfl⟩ <;> rcases k with ⟨i', hi', e', rfl, rfl, rfl, rfl⟩ | ⟨kn, rfl, rfl, rfl, rfl⟩
    · obtain rfl : i = i' := by omega
      exact ⟨rfl, rfl, rfl, rfl⟩
    · exact absurd ⟨by omega, by omega⟩ kn
    · exact absurd ⟨by omega, by omega⟩ hn
    · exact ⟨rfl, rfl, rfl, rfl⟩
  · rcases h with ⟨i, j, e, e2, h1, h2, rfl, rfl, rfl, rfl⟩ | ⟨hn, rfl, rfl, rfl, rfl⟩ <;> rcases k with ⟨i', j', e', e2', k1, k2, rfl, rfl, rfl, rfl⟩ | ⟨kn, rfl, rfl, rfl, rfl⟩
    · obtain rfl : i = i' := by omega
      obtain rfl : j = j' := by omega
      exact ⟨rfl, rfl, rfl, rfl⟩
    · exact absurd ⟨by omega, by omega, by omega⟩ kn
    · exact absurd ⟨by omega, by omega, by omega⟩ hn
    · exact ⟨rfl, rfl, rfl, rfl⟩
  · obtain ⟨rfl, rfl, rfl, rfl⟩ := h; obtain ⟨rfl, rfl, rfl, rfl⟩ := k; exact ⟨rfl, rfl, rfl, rfl⟩
  · obtain ⟨rfl, rfl, rfl, rfl⟩ := h; obtain ⟨rfl, rfl, rfl, rfl⟩ := k; exact ⟨rfl, rfl, rfl, rfl⟩
  · obtain ⟨rfl, rfl, rfl, rfl⟩ := h; obtain ⟨rfl, rfl, rfl, rfl⟩ := k; exact ⟨rfl, rfl, rfl, rfl⟩
  · rcases h with ⟨m, e, hb, rfl, rfl, rfl, rfl⟩ | ⟨hn, rfl, rfl, rfl, rfl⟩ <;> rcases k with ⟨m', e', kb, rfl, rfl, rfl, rfl⟩ | ⟨kn, rfl, rfl, rfl, rfl⟩
    · obtain rfl := itoa_inj hb.1 hb.2 kb.1 kb.2 (e.trans e'.symm)
      exact ⟨rfl, rfl, rfl, rfl⟩
    · exact absurd e (kn _ hb.1 hb.2)
    · exact absurd e' (hn _ kb.1 kb.2)
    · exact ⟨rfl, rfl, rfl, rfl⟩
theorem BltRes.uniq {op : Int} {N : Nat} {vl : Nat → Vl} {y z y' z' : Int} {st wd st' wd' : ByteArray} (h : BltRes op N vl y z st wd) (k : BltRes op N vl y' z' st' wd') : y = y' ∧ z = z' ∧ st = st' ∧ wd = wd' := by
  rcases h with ⟨hn, rfl, rfl, rfl, rfl⟩ | ⟨hf, h⟩ <;> rcases k with ⟨kn, rfl, rfl, rfl, rfl⟩ | ⟨kf, k⟩
  · exact ⟨rfl, rfl, rfl, rfl⟩
  · exact absurd kf hn
  · exact absurd hf kn
  · exact h.uniq k
theorem valid_ge {t n : Int} {s : ByteArray} (h : validB t n s = true) : 1 ≤ t ∧ t ≤ 10 := by
  by_cases h1 : t = 1
  · omega
  · by_cases h2 : t = 2
    · omega
    · by_cases h3 : 3 ≤ t ∧ t ≤ 10
      · omega
      · rw [valid_out h1 h2 h3] at h; cases h
theorem fitL_congr {any any' : Int} {wl wl' ts : List Int} (hl : wl.length = wl'.length) (h : ∀ i, i < wl.length → i < ts.length → (fit1 any (wl.getD i 0) (ts.getD i 0) ↔ fit1 any' (wl'.getD i 0) (ts.getD i 0))) : FitL any wl ts ↔ FitL any' wl' ts :=
  ⟨fun k => ⟨hl ▸ k.1, fun i hi => (h i (by rw [k.1]; exact hi) hi).1 (k.2 i hi)⟩, fun k => ⟨hl.trans k.1, fun i hi => (h i (by rw [hl, k.1]; exact hi) hi).2 (k.2 i hi)⟩⟩
/-- The model's 'any' is 0, the program's -1: no value has either. -/
theorem fit_same {op : Int} {N : Nat} {vl : Nat → Vl} (h6 : 6 ≤ op) (h12 : op ≤ 12) (hv : ∀ i, i < N → okV (vl i) = true) : FitL 0 (wants 0 op) (tsOf N vl) ↔ FitL (-1) (wants (-1) op) (tsOf N vl) := by
  have ht : ∀ i, i < N → 1 ≤ (tsOf N vl).getD i 0 ∧ (tsOf N vl).getD i 0 ≤ 10 := fun i hi => by rw [tsOf_get N vl i hi]; exact valid_ge (hv i hi)
  have hl := tsOf_len N vl
  generalize tsOf N vl = ts at *
  subst hl
  obtain rfl | rfl | rfl | rfl | rfl | rfl | rfl : op = 6 ∨ op = 7 ∨ op = 8 ∨ op = 9 ∨ op = 10 ∨ op = 11 ∨ op = 12 := by omega
  all_goals refine fitL_congr rfl fun i hi hit => ?_
  all_goals have := ht i hit
  all_goals generalize ts.getD i 0 = t at *
  all_goals unfold fit1
  all_goals match i, hi with
    | 0, _ => (simp [wants]; try omega)
    | 1, hi => (first | (exact absurd hi (by decide)) | (simp [wants]; try omega))
    | 2, hi => (first | (exact absurd hi (by decide)) | (simp [wants]; try omega))
    | q + 3, hi => (exfalso; simp [wants] at hi; try omega)
end Go.Proofs.YtabefhpgeaihgaaDoor.V
