import Derived.Test.YtabefhpgeaihgaaGreatDoorJ45
/-! dec of a number and num of what it wrote, by the program. -/
namespace Go.Proofs.YtabefhpgeaihgaaGreatDoor.V
open Go.RowKit Go.Shelf
set_option maxRecDepth 20000
/-- The text of a number. -/
def decB (n : Int) : ByteArray := ⟨(Lib.itoa n).toArray⟩
theorem decB_list (n : Int) : (decB n).data.toList = Lib.itoa n := by unfold decB; simp
theorem decB_size (n : Int) (h1 : -9223372036854775808 ≤ n) (h2 : n ≤ 9223372036854775807) : (decB n).size ≤ 20 := by
  rw [← len_size, decB_list]
  exact (itoa_len n h1 h2).2
theorem one_at {W : World} {g : Nat} {t n : Int} {s : ByteArray} (h : W.heap[g]? = some (vbox t n s)) : ValsAt W g 1 (fun _ => ⟨t, n, s⟩) := fun i hi => by
  obtain rfl : i = 0 := by omega
  obtain ⟨a, b, c, _⟩ := six h
  exact ⟨a, b, c⟩
theorem fit_one {any w t op : Int} {vl : Nat → Vl} (hw : wants any op = [w]) (ht : (vl 0).t = t) (h : fit1 any w t) : FitL any (wants any op) (tsOf 1 vl) := by
  rw [hw]
  refine ⟨by rw [tsOf_len]; rfl, fun i hi => ?_⟩
  rw [tsOf_len] at hi
  obtain rfl : i = 0 := by omega
  rw [tsOf_get 1 vl 0 (by omega), ht]
  exact h
theorem built_dec (n : Int) (h1 : -9223372036854775808 ≤ n) (h2 : n ≤ 9223372036854775807) (g : Nat) (p q r : Addr) (W : World) (hg : W.heap[g]? = some (vbox 10 n wNone)) (hE : EnvT W p q r) :
    Calls Tryz.prog 10 #[.int .i64 11, .slice (some ⟨g, 0, none⟩) 1 1] W fun e w' => e = .returned (ans 2 0 (decB n) wNone) ∧ Below W.heap.size W w' := by
  refine (implB_any 11 g 1 (fun _ => ⟨10, n, wNone⟩) (by decide) p q r W (Array.getElem?_eq_some_iff.1 hg).1 (one_at hg) (fun _ _ => ⟨h1, h2⟩) hE).mono ?_
  rintro e w' ⟨y, z, st, wd, rfl, hr, hb⟩
  have hf : Fits 11 1 (fun _ => (⟨10, n, wNone⟩ : Vl)) := ⟨by decide, by decide, fun i _ => valid_mkN (t := 10) (by decide) (by decide) (into_ten n h1 h2).symm, fit_one (t := 10) rfl rfl (.inr ⟨rfl, by decide, by decide⟩)⟩
  rcases hr with ⟨h, _⟩ | ⟨_, hk⟩
  · exact absurd hf h
  · have hk' : BltOk 11 ⟨10, n, wNone⟩ ⟨10, n, wNone⟩ ⟨10, n, wNone⟩ 2 0 (decB n) wNone := .inr (.inr (.inr (.inr (.inr (.inl ⟨rfl, rfl, rfl, by show _ = ByteArray.mk (decT 10 n).toArray; rw [decT_10 n h1 h2]; rfl, rfl⟩)))))
    obtain ⟨rfl, rfl, rfl, rfl⟩ := hk.uniq hk'
    exact ⟨rfl, hb⟩
theorem built_num (n : Int) (h1 : -9223372036854775808 ≤ n) (h2 : n ≤ 9223372036854775807) (g : Nat) (p q r : Addr) (W : World) (hg : W.heap[g]? = some (vbox 2 0 (decB n))) (hE : EnvT W p q r) :
    Calls Tryz.prog 10 #[.int .i64 12, .slice (some ⟨g, 0, none⟩) 1 1] W fun e w' => e = .returned (ans 10 n wNone wNone) ∧ Below W.heap.size W w' := by
  refine (implB_any 12 g 1 (fun _ => ⟨2, 0, decB n⟩) (by decide) p q r W (Array.getElem?_eq_some_iff.1 hg).1 (one_at hg) (fun _ _ => show -9223372036854775808 ≤ (0 : Int) ∧ (0 : Int) ≤ 9223372036854775807 from ⟨by decide, by decide⟩) hE).mono ?_
  rintro e w' ⟨y, z, st, wd, rfl, hr, hb⟩
  have hv : validB 2 0 (decB n) = true := by
    have := decB_size n h1 h2
    simp [validB]
    omega
  have hf : Fits 12 1 (fun _ => (⟨2, 0, decB n⟩ : Vl)) := ⟨by decide, by decide, fun i _ => hv, fit_one (t := 2) rfl rfl (.inl rfl)⟩
  rcases hr with ⟨h, _⟩ | ⟨_, hk⟩
  · exact absurd hf h
  · have hk' : BltOk 12 ⟨2, 0, decB n⟩ ⟨2, 0, decB n⟩ ⟨2, 0, decB n⟩ 10 n wNone wNone := .inr (.inr (.inr (.inr (.inr (.inr ⟨rfl, .inl ⟨n, (decB_list n).symm, ⟨h1, h2⟩, rfl, rfl, rfl, rfl⟩⟩)))))
    obtain ⟨rfl, rfl, rfl, rfl⟩ := hk.uniq hk'
    exact ⟨rfl, hb⟩
end Go.Proofs.YtabefhpgeaihgaaGreatDoor.V
