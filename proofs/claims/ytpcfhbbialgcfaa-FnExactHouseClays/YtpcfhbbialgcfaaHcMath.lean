import Derived.Test.YtpcfhbbialgcfaaHcPkg
import Derived.Test.YtpcfhbbialgcfaaPlPutF
import Derived.Sort.KeysCollected
/-! The packages of a place: plain mathematics. -/
namespace Go.Proofs.Ytpcfhbbialgcfaa.P
open Go.RowKit Go.Maps
open Go.Proofs.Ytpcfhbbialgcfaa.R (hid Fl fl0)
set_option maxRecDepth 20000
def clayE : ByteArray := ⟨#[46, 99, 108, 97, 121]⟩
def endB (s : ByteArray) : ByteArray := s.extract (s.size - 5) s.size
def cutB (s : ByteArray) : ByteArray := s.extract 0 (s.size - 5)
def pkgOkB (s : ByteArray) : Bool := decide (1 ≤ s.size) && decide (s.size ≤ 30) && s.data.toList.all pkgB
theorem pkgOkB_iff (s : ByteArray) : pkgOkB s = true ↔ PkgOk s := by
  unfold pkgOkB PkgOk
  simp only [Bool.and_eq_true, decide_eq_true_eq, List.all_eq_true, and_assoc]
  refine and_congr_right fun _ => and_congr_right fun _ => ⟨fun h i hi => h _ ?_, fun h x hx => ?_⟩
  · exact Array.getElem_mem_toList (by simpa using hi)
  · obtain ⟨i, hi, e⟩ := List.getElem_of_mem hx
    subst e
    exact h i (by simpa using hi)
/-- A file's name is that of a package. -/
def isPk (s : ByteArray) : Bool := decide (5 ≤ s.size) && decide (endB s = clayE) && pkgOkB (cutB s)
theorem isPk_iff (s : ByteArray) : isPk s = true ↔ 5 ≤ s.size ∧ endB s = clayE ∧ PkgOk (cutB s) := by
  unfold isPk
  simp only [Bool.and_eq_true, decide_eq_true_eq, pkgOkB_iff, and_assoc]
def pk (x : Fl) : Fl := ⟨cutB x.name, x.text⟩
def pks (l : List Fl) : List Fl := (l.filter fun x => isPk x.name).map pk
def zs (l : List Fl) : List Fl := putAll [] (pks l)
theorem pks_yes {l : List Fl} {j : Nat} (h : j < l.length) (hp : isPk (l.getD j fl0).name = true) : pks (l.take (j + 1)) = pks (l.take j) ++ [pk (l.getD j fl0)] := by
  unfold pks
  rw [take_next h, List.filter_append, List.map_append, List.filter_cons_of_pos (p := fun x : Fl => isPk x.name) hp]
  rfl
theorem pks_no {l : List Fl} {j : Nat} (h : j < l.length) (hp : isPk (l.getD j fl0).name = false) : pks (l.take (j + 1)) = pks (l.take j) := by
  unfold pks
  rw [take_next h, List.filter_append, List.map_append, List.filter_cons_of_neg (p := fun x : Fl => isPk x.name) (by rw [hp]; decide)]
  simp
theorem zs_yes {l : List Fl} {j : Nat} (h : j < l.length) (hp : isPk (l.getD j fl0).name = true) : zs (l.take (j + 1)) = putL (zs (l.take j)) (pk (l.getD j fl0)) := by
  unfold zs
  rw [pks_yes h hp]
  unfold putAll
  rw [List.foldl_append]
  rfl
theorem zs_no {l : List Fl} {j : Nat} (h : j < l.length) (hp : isPk (l.getD j fl0).name = false) : zs (l.take (j + 1)) = zs (l.take j) := by
  unfold zs
  rw [pks_no h hp]
theorem zs_asc (l : List Fl) : Asc (nms (zs l)) := (putAll_all (pks l) [] (fun _ _ hi => absurd hi (Nat.not_lt_zero _))).1
theorem zs_len (l : List Fl) : (zs l).length ≤ l.length := by
  have h1 := putAll_len (pks l) []
  have h2 : (pks l).length ≤ l.length := by unfold pks; rw [List.length_map]; exact List.length_filter_le _ _
  simp only [List.length_nil] at h1
  unfold zs
  omega
/-- What a map of files by their packages' names holds. -/
def Holds (f : ByteArray → Option Fl) (Z : List Fl) : Prop := ∀ t, (f t).map Fl.text = (findF Z t).map Fl.text
theorem holds_none : Holds (fun _ => none) [] := fun _ => rfl
def setK (f : ByteArray → Option Fl) (t : ByteArray) (x : Fl) : ByteArray → Option Fl := fun u => if u = t then some x else f u
theorem Holds.put {f : ByteArray → Option Fl} {Z : List Fl} (h : Holds f Z) (hA : Asc (nms Z)) (x : Fl) : Holds (setK f (cutB x.name) x) (putL Z (pk x)) := fun t => by
  rw [find_put hA]
  unfold setK setF
  by_cases e : t = cutB x.name
  · rw [if_pos e, if_pos (show t = (pk x).name from e)]
    rfl
  · rw [if_neg e, if_neg (show ¬ t = (pk x).name from e)]
    exact h t
theorem find_some {Z : List Fl} (t : ByteArray) : (findF Z t).isSome = true ↔ t ∈ nms Z := by
  induction Z with
  | nil => simp [findF, nms]
  | cons x Z ih =>
    unfold findF
    by_cases e : x.name = t
    · rw [if_pos e]
      simp [nms, e]
    · rw [if_neg e, ih]
      have e2 : ¬ t = x.name := fun h => e h.symm
      simp [nms, e2]
theorem Holds.has {f : ByteArray → Option Fl} {Z : List Fl} (h : Holds f Z) (t : ByteArray) : (f t).isSome = true ↔ t ∈ nms Z := by
  rw [← find_some]
  have := congrArg Option.isSome (h t)
  rw [Option.isSome_map, Option.isSome_map] at this
  rw [this]
theorem Holds.text {f : ByteArray → Option Fl} {Z : List Fl} (h : Holds f Z) (hA : Asc (nms Z)) {i : Nat} (hi : i < Z.length) : ((f (Z.getD i fl0).name).getD fl0).text = (Z.getD i fl0).text := by
  have h1 := h (Z.getD i fl0).name
  have h2 : Z.getD i fl0 ∈ Z := by
    rw [List.getD_eq_getElem?_getD, List.getElem?_eq_getElem hi]
    exact List.getElem_mem hi
  rw [findF_of hA h2] at h1
  cases hf : f (Z.getD i fl0).name with
  | none => rw [hf] at h1; cases h1
  | some y =>
    rw [hf] at h1
    simp only [Option.map_some, Option.some.injEq] at h1
    exact h1
/-- What HouseClays answers. -/
def HcIs (l Z : List Fl) (ns : List ByteArray) : Prop := (PlOk l ∧ (zs l).length ≤ 20 ∧ Z = zs l ∧ ns = nms l) ∨ (¬ (PlOk l ∧ (zs l).length ≤ 20) ∧ Z = [] ∧ ns = [])
theorem HcIs.uniq {l Z Z' : List Fl} {ns ns' : List ByteArray} (h : HcIs l Z ns) (h' : HcIs l Z' ns') : Z = Z' ∧ ns = ns' := by
  rcases h with ⟨a, b, rfl, rfl⟩ | ⟨a, rfl, rfl⟩ <;> rcases h' with ⟨c, d, rfl, rfl⟩ | ⟨c, rfl, rfl⟩
  · exact ⟨rfl, rfl⟩
  · exact absurd ⟨a, b⟩ c
  · exact absurd ⟨c, d⟩ a
  · exact ⟨rfl, rfl⟩
theorem HcIs.len {l Z : List Fl} {ns : List ByteArray} (h : HcIs l Z ns) : Z.length ≤ 20 ∧ ns.length ≤ 40 := by
  rcases h with ⟨a, b, rfl, rfl⟩ | ⟨_, rfl, rfl⟩
  · exact ⟨b, by rw [nms_len]; exact a.1⟩
  · exact ⟨Nat.zero_le _, Nat.zero_le _⟩
/-- Names that ascend, as lists of bytes. -/
theorem asc_pair {ns : List ByteArray} (h : Asc ns) : (ns.map fun t => t.data.toList).Pairwise (fun a b => a < b) := by
  refine List.pairwise_iff_getElem.2 fun i j hi hj hij => ?_
  simp only [List.length_map] at hi hj
  have h1 := (ltB_iff _ _).1 (h.lt hij hj)
  simp only [List.getElem_map]
  rw [Lib.toList_data, Lib.toList_data, List.getD_eq_getElem?_getD, List.getD_eq_getElem?_getD, List.getElem?_eq_getElem hi, List.getElem?_eq_getElem hj] at h1
  exact h1
theorem asc_nodup {ns : List ByteArray} (h : Asc ns) : (ns.map fun t => t.data.toList).Nodup := (asc_pair h).imp fun hab e => by
  subst e
  exact (List.lt_irrefl _) hab
theorem asc_sorted {ns : List ByteArray} (h : Asc ns) {ss : List (List UInt8)} (hp : ss.Perm (ns.map fun t => t.data.toList)) : ss.mergeSort (fun x y => decide (x ≤ y)) = ns.map fun t => t.data.toList := by
  have e := mergeSort_of_perm hp
  rw [show (fun x y : List UInt8 => decide (x ≤ y)) = leB from rfl, e]
  refine List.mergeSort_of_pairwise ((asc_pair h).imp fun hab => ?_)
  simp only [leB, decide_eq_true_eq]
  exact List.le_of_lt hab
end Go.Proofs.Ytpcfhbbialgcfaa.P
