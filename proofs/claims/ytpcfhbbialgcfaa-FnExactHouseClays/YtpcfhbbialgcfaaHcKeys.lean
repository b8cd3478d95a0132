import Derived.Test.YtpcfhbbialgcfaaHcMath
import Derived.Test.YtpcfhbbialgcfaaHcLay
import Derived.Test.YtpcfhbbialgcfaaPlMap
/-! The keys of a map of files, in order. -/
namespace Go.Proofs.Ytpcfhbbialgcfaa.P
open Go.RowKit Go.Maps Go.Sort Go.Shelf
open Go.Proofs.Ytpcfhbbialgcfaa.R (hid Fl fl0 lt_hp hp_next)
set_option maxRecDepth 20000
theorem srt_in (m : Nat) : AnyZ.SortsIn Try.prog stdq_ren Fence.wide m :=
  ⟨fun blk off cap ss W hH hblk hsz => callsIn_wide.2 (AnyM.slices_Sort_string srtq_lays blk off cap ss W hH hblk hsz),
   fun p cap W => callsIn_wide.2 (AnyM.slices_Sort_string_none srtq_lays p cap W)⟩
theorem keys_any (mb : Option Nat) (W : World) : Calls Try.prog 21 #[.map mb] W fun e w' => e = .returned (.func (.func 39) #[] #[.pointer (some ⟨W.heap.size, 0, none⟩)]) ∧ w' = W.alloc (.cells #[.map mb] 48) :=
  (callsIn_wide (n := 5)).1 (AnyZ.keys_in keyq_lays Fence.wide 5 trivial rfl mb W)
/-- Names in a row of one's own. -/
def OwnN (B : Nat) (W : World) (v : Value) (ns : List ByteArray) : Prop := W.ownsRow B 9 1 v ns.length (ns.map fun t => Value.string t)
theorem perm_of {W : World} {m n : Nat} {D : DataW Unit} {Z : List Fl} {f : ByteArray → Option Fl} (hown : W.ownsMap Try.prog 9 fileR m n D)
    (hf : ∀ t, (f t = none → Maps.has D (keyT t) = false) ∧ ∀ x, f t = some x → Maps.has D (keyT t) = true ∧ D.atKey (keyT t) (fileD fl0) = fileD x) (hH : Holds f Z) (hA : Asc (nms Z)) :
    ((nms Z).map fun t => t.data.toList).Perm (strKeys D) := by
  have hc : Collected D (fun _ => false) ((nms Z).map fun t => t.data.toList) := by
    refine ⟨asc_nodup hA, fun x => ?_⟩
    have h1 := hH.has ⟨x.toArray⟩
    have h2 := hf ⟨x.toArray⟩
    have e1 : keyT ⟨x.toArray⟩ = Lit.string x := by simp [keyT]
    rw [e1] at h2
    have e2 : x ∈ (nms Z).map (fun t => t.data.toList) ↔ (⟨x.toArray⟩ : ByteArray) ∈ nms Z := by
      rw [List.mem_map]
      constructor
      · rintro ⟨t, ht, rfl⟩
        exact ht
      · intro h
        exact ⟨_, h, rfl⟩
    rw [e2, ← h1]
    cases hx : f ⟨x.toArray⟩ with
    | none => simp [h2.1 hx]
    | some y => simp [(h2.2 y hx).1]
  exact hc.perm hown (string_keyed Try.underlying9) Try.underlying9 (fun _ => rfl)
theorem size_keys {D : DataW Unit} {es : List (Lit × DataW Unit)} (h : D = .map es) : (strKeys D).length = Maps.size D := by
  subst h
  simp [strKeys, Maps.size]
theorem MapF.size {W : World} {m n : Nat} {Z : List Fl} {f : ByteArray → Option Fl} (h : MapF W m n f) (hH : Holds f Z) (hA : Asc (nms Z)) (ty : TypeId) : (Builtin.len_ #[48] ty #[.map (some m)]).run Try.prog W = .ok (.int .i64 (Z.length : Nat)) W := by
  obtain ⟨D, hown, hf⟩ := h
  obtain ⟨es, hD, _⟩ := hown.keysOf
  have h1 := (perm_of hown hf hH hA).length_eq
  rw [size_keys hD, List.length_map, nms_len] at h1
  rw [h1]
  exact hown.len Try.underlying48 ty
theorem enc_nms (ns : List ByteArray) : (ns.map fun t => t.data.toList).map encStr = ns.map fun t => Value.string t := by
  rw [List.map_map]
  exact List.map_congr_left fun t _ => rfl
set_option maxHeartbeats 1000000 in
theorem sorted_any {m n b0 : Nat} {Z : List Fl} {f : ByteArray → Option Fl} (w : World) (h : MapF w m n f) (hH : Holds f Z) (hA : Asc (nms Z)) (hn : n ≤ 1000000) (h0 : w.cell? ⟨b0, 0, none⟩ = some (.map (some m))) (hb : b0 < w.heap.size) :
    Calls Try.prog 20 #[.func (.func 39) #[] #[.pointer (some ⟨b0, 0, none⟩)]] w fun e w' => ∃ v, e = .returned v ∧ OwnN w.heap.size w' v (nms Z) ∧ Below w.heap.size w w' := by
  obtain ⟨D, hown, hf⟩ := h
  have hsz := hown.size_le
  have hseq : SeqGives Fence.wide 2 Try.prog 39 #[.pointer (some ⟨b0, 0, none⟩)] encStr (fun ss => ss.Perm (strKeys D)) (Maps.size D) w :=
    AnyZ.keys_gives (ρ := keyq_ren) { keyq_lays with } Fence.wide _ trivial rfl (by omega) b0 m n D _ hb h0 hown
  have cS := AnyZ.sorted_in stdq_lays Fence.wide 5 trivial trivial trivial trivial rfl (by omega) (srt_in _) (enters_of Try.func38 (by kernel_rfl) rfl) 39 #[.pointer (some ⟨b0, 0, none⟩)] trivial (enters_of Try.func39 (by kernel_rfl) rfl) _ _ (by unfold maxLen; omega) (by omega) _ hseq
  refine ((callsIn_wide (n := 5)).1 cS).mono ?_
  rintro e w' ⟨v, ss, rfl, hp, hrow, _, hb⟩
  refine ⟨v, rfl, ?_, hb⟩
  have hp2 := hp.trans (perm_of hown hf hH hA).symm
  rw [asc_sorted hA hp2, enc_nms] at hrow
  have hl := hp2.length_eq
  rw [List.length_map] at hl
  rw [hl] at hrow
  exact hrow
end Go.Proofs.Ytpcfhbbialgcfaa.P
