import Derived.Test.YtfndbnbnimhnaaaGreatDoorJ01
/-! Plain mathematics of Mill's scanning. -/
namespace Go.Proofs.YtfndbnbnimhnaaaGreatDoor
def mlt (c : Int) : Bool := decide (97 ≤ c) && decide (c ≤ 122)
def mltB (c : UInt8) : Bool := mlt c.toNat
def tws : List (List UInt8) := [ [98, 111, 111, 108], [116, 101, 120, 116], [117, 56], [117, 49, 54], [117, 51, 50], [117, 54, 52], [105, 56], [105, 49, 54], [105, 51, 50], [105, 54, 52] ]
def pws : List (List UInt8) := [ [102, 110], [108, 101, 116], [105, 102], [101, 108, 115, 101], [119, 104, 105, 108, 101], [98, 114, 101, 97, 107], [99, 111, 110, 116, 105, 110, 117, 101], [114, 101, 116, 117, 114, 110], [102, 97, 105, 108], [119, 114, 105, 116, 101], [115, 97, 121], [116, 114, 117, 101], [102, 97, 108, 115, 101] ]
def bws : List (List UInt8) := [ [114, 101, 97, 100], [104, 97, 115], [108, 105, 115, 116], [116, 111, 111, 108], [97, 114, 103], [108, 101, 110], [97, 116], [99, 117, 116], [102, 105, 110, 100], [99, 104, 114], [100, 101, 99], [110, 117, 109] ]
def mws : List (List UInt8) := tws ++ pws ++ bws
/-- The type that a word names, 0 for none. -/
def mtype (x : List UInt8) : Nat := if x ∈ tws then tws.idxOf x + 1 else 0
def tw (i : Nat) : List UInt8 := tws.getD i []
theorem mtype_tw (i : Nat) (h : i < 10) : mtype (tw i) = i + 1 := by
  have : ∀ j : Fin 10, mtype (tw j.1) = j.1 + 1 := by decide
  exact this ⟨i, h⟩
theorem mem_get (xs : List (List UInt8)) (t : List UInt8) : t ∈ xs ↔ ∃ i, i < xs.length ∧ xs.getD i [] = t := by
  constructor
  · intro h
    obtain ⟨i, hl, e⟩ := List.getElem_of_mem h
    exact ⟨i, hl, by simp [hl, e]⟩
  · rintro ⟨i, h, e⟩
    rw [← e]; simp [h]
theorem mtype_none (x : List UInt8) (h : ∀ i, i < 10 → tw i ≠ x) : mtype x = 0 := by
  unfold mtype; rw [if_neg]
  intro hm
  obtain ⟨i, hi, e⟩ := (mem_get tws x).1 hm
  exact h i hi e
theorem mtype_pos (x : List UInt8) : mtype x ≠ 0 ↔ x ∈ tws := by
  unfold mtype; split
  · rename_i h; exact ⟨fun _ => h, fun _ => by omega⟩
  · rename_i h; exact ⟨fun e => absurd rfl e, fun e => absurd e h⟩
structure MOne where
  kind : Nat
  text : List UInt8
  ty : Nat
  n : Int
  size : Nat
  code : Nat
def MOne.bad (c : Nat) : MOne := ⟨0, [], 0, 0, 0, c⟩
end Go.Proofs.YtfndbnbnimhnaaaGreatDoor
