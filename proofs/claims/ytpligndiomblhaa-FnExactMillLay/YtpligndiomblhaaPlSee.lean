import Derived.Test.YtpligndiomblhaaPlList
/-! What a look is answered in a box. -/
namespace Go.Proofs.Ytpligndiomblhaa.P
open Go.RowKit
open Go.Proofs.Ytpligndiomblhaa.R (hid set_other Fl fl0 lt_hp hp_next B1 B2 row_cell row_room SFlR below_drewN below_set)
set_option maxRecDepth 20000
def emp : ByteArray := ⟨#[]⟩
def seeR (ns : List ByteArray) (f : ByteArray → Option Fl) (kind : Int) (t : ByteArray) : Int × ByteArray :=
  if kind = 3 then (0, ⟨(lstL t ns).toArray⟩) else if ¬ kind = 1 ∧ ¬ kind = 2 then (5, emp) else
    match f t with
    | none => (4, emp)
    | some x => if kind = 2 then (0, emp) else (0, x.text)
def SeeEnd (r : Int × ByteArray) (w : World) (e : Ending) (w' : World) : Prop := e = .returned (.agg #[.int .i64 r.1, .string r.2]) ∧ Below w.heap.size w w'
/-- The reply's cell, and the file's. -/
structure SX (w : World) (y : Fl) (W : World) : Prop where
  lo : Below w.heap.size w W
  e : W.heap[w.heap.size]? = some (.cells #[.int .i64 0, .string ⟨#[]⟩] 34)
  f : W.heap[w.heap.size + 1]? = some (.cells #[.string y.name, .string y.text] 55)
theorem SX.start (w : World) (y : Fl) : SX w y ((w.alloc (.cells #[.int .i64 0, .string ⟨#[]⟩] 34)).alloc (.cells #[.string y.name, .string y.text] 55)) :=
  have h := B2.start w (.cells #[.int .i64 0, .string ⟨#[]⟩] 34) (.cells #[.string y.name, .string y.text] 55)
  ⟨h.lo, h.e, h.f⟩
theorem SX.next {w : World} {y : Fl} {W V : World} (h : SX w y W) (hb : Below W.heap.size W V) : SX w y V := ⟨h.lo.trans (hb.mono h.lo.size), hp_next h.e hb, hp_next h.f hb⟩
set_option maxHeartbeats 4000000 in
theorem see_any (kind : Int) (t : ByteArray) {B b : Nat} {ns : List ByteArray} {f : ByteArray → Option Fl} {k m : Nat} {v : Value} {w : World} (h : Bx B b ns f k v m w) (hN : ns.length ≤ 1000) (hn : ∀ n ∈ ns, n.size ≤ 1048576) (ht : t.size ≤ 1048576) :
    Calls Try.prog 33 #[.pointer (some ⟨b, 0, none⟩), .int .i64 kind, .string t] w (SeeEnd (seeR ns f kind t) w) := by
  have HM := hid hn
  have HA := hid ((Below.refl w.heap.size w).alloc (Nat.le_refl _) (.cells #[.int .i64 0, .string ⟨#[]⟩] 34))
  have HBX := hid (h.next HA.out)
  have hget := HBX.out.mp.get t (by unfold maxLen; omega)
  have k0 : (w.alloc (.cells #[.int .i64 0, .string ⟨#[]⟩] 34)).cell? ⟨b, 1, none⟩ = some (.map (some m)) := row_cell HBX.out.e 1
  clear h hn
  unfold fileV at hget
  obtain ⟨y, hy⟩ : ∃ y, (f t).getD fl0 = y := ⟨_, rfl⟩
  obtain ⟨ok, hok⟩ : ∃ ok, (f t).isSome = ok := ⟨_, rfl⟩
  rw [hy, hok] at hget
  have HY := hid hy
  have HOK := hid hok
  clear hy hok
  have HS := hid (SX.start w y)
  have HBS := hid (HBX.out.next ((Below.refl _ _).alloc (Nat.le_refl _) (.cells #[.string y.name, .string y.text] 55)))
  go_enter Try.func33, Try.ntmps33
  go_upto_region 2 with fail
  obtain ⟨W0, hW0⟩ : ∃ W, (w.alloc (.cells #[.int .i64 0, .string ⟨#[]⟩] 34)).alloc (.cells #[.string y.name, .string y.text] 55) = W := ⟨_, rfl⟩
  rw [hW0] at HS HBS ⊢
  clear hW0 hget k0
  have r0 : W0.cell? ⟨w.heap.size, 0, none⟩ = some (.int .i64 0) := row_cell HS.out.e 0
  have r1 : W0.cell? ⟨w.heap.size, 1, none⟩ = some (.string ⟨#[]⟩) := row_cell HS.out.e 1
  have z0 : W0.frozen? ⟨w.heap.size, 0, none⟩ = false := (row_room HS.out.e (i := 0) (by simp)).2
  have z1 : W0.frozen? ⟨w.heap.size, 1, none⟩ = false := (row_room HS.out.e (i := 1) (by simp)).2
  have f1 : W0.cell? ⟨w.heap.size + 1, 1, none⟩ = some (.string y.text) := row_cell HS.out.f 1
  by_cases h3 : kind = 3
  · subst h3
    have HR : Hid (seeR ns f 3 t = (0, ⟨(lstL t ns).toArray⟩)) := hid (if_pos rfl)
    obtain ⟨s, hs⟩ : ∃ s : ByteArray, (⟨(lstL t ns).toArray⟩ : ByteArray) = s := ⟨_, rfl⟩
    have HL := hid (list_any t HBS.out hN HM.out)
    rw [hs] at HR HL
    clear hs
    go_wp2_with fail
    refine HL.out.mono ?_
    rintro e w2 ⟨rfl, hb2⟩
    have HS2 := hid (HS.out.next hb2)
    clear hb2 r0 r1 z0 z1 f1
    have r0 : w2.cell? ⟨w.heap.size, 0, none⟩ = some (.int .i64 0) := row_cell HS2.out.e 0
    have r1 : w2.cell? ⟨w.heap.size, 1, none⟩ = some (.string ⟨#[]⟩) := row_cell HS2.out.e 1
    have z0 : w2.frozen? ⟨w.heap.size, 0, none⟩ = false := (row_room HS2.out.e (i := 0) (by simp)).2
    have z1 : w2.frozen? ⟨w.heap.size, 1, none⟩ = false := (row_room HS2.out.e (i := 1) (by simp)).2
    go_wp2
    refine bodyPost_ret (v := .agg #[.int .i64 0, .string s]) (by simp [results, Try.results33, go_sem, r0, r1]) rfl ⟨by rw [HR.out], below_set (below_set HS2.out.lo _ _ (Nat.le_refl _) _) _ _ (Nat.le_refl _) _⟩
  · have h3b : (kind == 3) = false := by simpa using h3
    by_cases h1 : kind = 1
    · subst h1
      cases ok with
      | false =>
        have HR : Hid (seeR ns f 1 t = (4, emp)) := hid (by
          have : f t = none := by cases hf : f t with | none => rfl | some z => have := HOK.out; rw [hf] at this; cases this
          unfold seeR; rw [this]; rfl)
        go_wp2
        refine bodyPost_ret (v := .agg #[.int .i64 4, .string ⟨#[]⟩]) (by simp [results, Try.results33, go_sem, r0, r1]) rfl ⟨by rw [HR.out]; rfl, below_set (below_set HS.out.lo _ _ (Nat.le_refl _) _) _ _ (Nat.le_refl _) _⟩
      | true =>
        have HR : Hid (seeR ns f 1 t = (0, y.text)) := hid (by
          cases hf : f t with
          | none => have := HOK.out; rw [hf] at this; cases this
          | some z => have h9 := HY.out; rw [hf] at h9; have : z = y := h9; subst this; unfold seeR; rw [hf]; rfl)
        go_wp2
        refine bodyPost_ret (v := .agg #[.int .i64 0, .string y.text]) (by simp [results, Try.results33, go_sem, r0, r1]) rfl ⟨by rw [HR.out], below_set (below_set HS.out.lo _ _ (Nat.le_refl _) _) _ _ (Nat.le_refl _) _⟩
    · have h1b : (kind != 1) = true := by simpa using h1
      by_cases h2 : kind = 2
      · subst h2
        cases ok with
        | false =>
          have HR : Hid (seeR ns f 2 t = (4, emp)) := hid (by
            have : f t = none := by cases hf : f t with | none => rfl | some z => have := HOK.out; rw [hf] at this; cases this
            unfold seeR; rw [this]; rfl)
          go_wp2
          refine bodyPost_ret (v := .agg #[.int .i64 4, .string ⟨#[]⟩]) (by simp [results, Try.results33, go_sem, r0, r1]) rfl ⟨by rw [HR.out]; rfl, below_set (below_set HS.out.lo _ _ (Nat.le_refl _) _) _ _ (Nat.le_refl _) _⟩
        | true =>
          have HR : Hid (seeR ns f 2 t = (0, emp)) := hid (by
            cases hf : f t with
            | none => have := HOK.out; rw [hf] at this; cases this
            | some z => unfold seeR; rw [hf]; rfl)
          go_wp2
          refine bodyPost_ret (v := .agg #[.int .i64 0, .string ⟨#[]⟩]) (by simp [results, Try.results33, go_sem, r0, r1]) rfl ⟨by rw [HR.out]; rfl, below_set (below_set HS.out.lo _ _ (Nat.le_refl _) _) _ _ (Nat.le_refl _) _⟩
      · have h2b : (kind != 2) = true := by simpa using h2
        have HR : Hid (seeR ns f kind t = (5, emp)) := hid (by unfold seeR; rw [if_neg h3, if_pos ⟨h1, h2⟩])
        clear h1 h2 h3
        go_wp2
        refine bodyPost_ret (v := .agg #[.int .i64 5, .string ⟨#[]⟩]) (by simp [results, Try.results33, go_sem, r0, r1]) rfl ⟨by rw [HR.out]; rfl, below_set (below_set HS.out.lo _ _ (Nat.le_refl _) _) _ _ (Nat.le_refl _) _⟩
end Go.Proofs.Ytpligndiomblhaa.P
