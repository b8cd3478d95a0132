import Derived.Test.YtpligndiomblhaaPlSee
/-! A look that is answered, by the program. -/
namespace Go.Proofs.Ytpligndiomblhaa.P
open Go.RowKit
open Go.Proofs.Ytpligndiomblhaa.J (Says says_t says_f FileOk Says.pos Says.neg)
open Go.Proofs.Ytpligndiomblhaa.R (hid set_other Fl fl0 lt_hp hp_next B1 B2 row_cell row_room SFlR below_drewN below_set)
set_option maxRecDepth 20000
set_option maxHeartbeats 4000000 in
theorem copied_any (c : Int) (s : ByteArray) (w : World) (hs : s.size ≤ 1048576) :
    Calls Try.prog 31 #[.agg #[.int .i64 c, .string s]] w (SeeEnd (c, s) w) := by
  have HS := hid (B2.start w (.cells #[.int .i64 c, .string s] 34) (.cells #[.int .i64 0, .string ⟨#[]⟩] 34))
  go_enter Try.func31, Try.ntmps31
  go_upto_region 1 with fail
  obtain ⟨W0, hW0⟩ : ∃ W, (w.alloc (.cells #[.int .i64 c, .string s] 34)).alloc (.cells #[.int .i64 0, .string ⟨#[]⟩] 34) = W := ⟨_, rfl⟩
  rw [hW0] at HS ⊢
  clear hW0
  have a0 : W0.cell? ⟨w.heap.size, 0, none⟩ = some (.int .i64 c) := row_cell HS.out.e 0
  have a1 : W0.cell? ⟨w.heap.size, 1, none⟩ = some (.string s) := row_cell HS.out.e 1
  have HCL := hid (clone_any s W0.drew hs)
  go_region_law (refine step_enter rfl (f := 51) (vals := #[.string s]) (by kernel_rfl) HCL.out ?_; intro e w7 hq7; obtain ⟨rfl, hb7⟩ := hq7; refine ⟨_, rfl, ?_⟩; have HS7 := hid (HS.out.next ((Below.refl W0.heap.size W0).drew.trans hb7)); have b0 : w7.cell? ⟨w.heap.size, 0, none⟩ = some (.int .i64 c) := row_cell HS7.out.e 0; have r0 : w7.cell? ⟨w.heap.size + 1, 0, none⟩ = some (.int .i64 0) := row_cell HS7.out.f 0; have r1 : w7.cell? ⟨w.heap.size + 1, 1, none⟩ = some (.string ⟨#[]⟩) := row_cell HS7.out.f 1; have z0 : w7.frozen? ⟨w.heap.size + 1, 0, none⟩ = false := (row_room HS7.out.f (i := 0) (by simp)).2; have z1 : w7.frozen? ⟨w.heap.size + 1, 1, none⟩ = false := (row_room HS7.out.f (i := 1) (by simp)).2; clear hb7)
  all_goals
    go_wp2
    refine bodyPost_ret (v := .agg #[.int .i64 c, .string s]) (by simp [results, Try.results31, go_sem, r0, r1]) rfl ⟨rfl, below_set (below_set HS7.out.lo _ _ (by omega) _) _ _ (by omega) _⟩
/-- What See answers. -/
def seeP (l : List Fl) (kind : Int) (t : ByteArray) : Int × ByteArray := seeR (layN [] l) (layF (fun _ => none) l) kind t
theorem lay_sizes {M : Nat} : ∀ (l : List Fl) (ns : List ByteArray), (∀ n ∈ ns, n.size ≤ M) → (∀ x ∈ l, x.name.size ≤ M) → ∀ n ∈ layN ns l, n.size ≤ M
  | [], ns, h, _ => h
  | x :: l, ns, h, h2 => by
    refine lay_sizes l (putN ns x.name) (fun n hn => ?_) (fun y hy => h2 y (List.mem_cons_of_mem _ hy))
    unfold putN at hn
    split at hn
    · exact h n hn
    · unfold insAt at hn
      rcases List.mem_append.1 hn with h9 | h9
      · exact h n (List.mem_of_mem_take h9)
      · rcases List.mem_cons.1 h9 with h8 | h8
        · rw [h8]; exact h2 x List.mem_cons_self
        · exact h n (List.mem_of_mem_drop h8)
theorem layF_mem : ∀ (l : List Fl) (f : ByteArray → Option Fl) (t : ByteArray) (x : Fl), layF f l t = some x → f t = some x ∨ x ∈ l
  | [], f, t, x, h => .inl h
  | y :: l, f, t, x, h => by
    rcases layF_mem l (setF f y) t x h with h1 | h1
    · unfold setF at h1
      split at h1
      · injection h1 with h1; exact .inr (by rw [← h1]; exact List.mem_cons_self)
      · exact .inl h1
    · exact .inr (List.mem_cons_of_mem _ h1)
theorem mem_low {l : List Fl} (h : LowF l) : ∀ x ∈ l, x.name.size ≤ 1048576 ∧ x.text.size ≤ 1048576 := fun x hx => by
  obtain ⟨i, hi, he⟩ := List.getElem_of_mem hx
  have := h.2 i hi
  rw [List.getD_eq_getElem?_getD, List.getElem?_eq_getElem hi] at this
  rw [← he]
  exact this
/-- What See answers is no longer than a text may be. -/
theorem seeP_size {l : List Fl} {kind : Int} {t : ByteArray} (h : LowF l) (h40 : PlOk l) : (seeP l kind t).2.size ≤ 1048576 := by
  unfold seeP seeR
  split
  · show (⟨(lstL t (layN [] l)).toArray⟩ : ByteArray).size ≤ _
    have h60 : ∀ n ∈ layN [] l, n.size ≤ 60 := lay_sizes l [] (fun n hn => by cases hn) (fun x hx => by
      obtain ⟨i, hi, he⟩ := List.getElem_of_mem hx
      have := (h40.2 i hi).1.1.2.1
      rw [List.getD_eq_getElem?_getD, List.getElem?_eq_getElem hi] at this
      rw [← he]
      exact this)
    have h1 := lst_len (p := t) h60
    have h2 := layN_len l []
    have h3 : (layN [] l).length ≤ 40 := by have := h40.1; simp at h2; omega
    have h4 := Nat.mul_le_mul_right (60 + 1) h3
    have h5 : (⟨(lstL t (layN [] l)).toArray⟩ : ByteArray).size = (lstL t (layN [] l)).length := by rw [← size_toList]
    omega
  · split
    · exact Nat.zero_le _
    · split
      · exact Nat.zero_le _
      · rename_i x hx
        split
        · exact Nat.zero_le _
        · rcases layF_mem l _ t x hx with h1 | h1
          · cases h1
          · exact (mem_low h x h1).2
set_option maxHeartbeats 4000000 in
theorem implSee_any (l : List Fl) (kind : Int) (t : ByteArray) {v : Value} {B : Nat} (w : World) (hx : LowF l) (ht : t.size ≤ 1048576) (k0 : SFlR B w v l) :
    Calls Try.prog 13 #[.agg #[v], .int .i64 kind, .string t] w fun e w' => ∃ r, SeeEnd r w e w' ∧ ((PlOk l ∧ r = seeP l kind t) ∨ (¬ PlOk l ∧ r = (5, emp))) := by
  have HX := hid hx
  have HS := hid (B2.start w (.cells #[v] 29) (.cells #[.int .i64 0, .string ⟨#[]⟩] 34))
  have HK := hid (k0.next HS.out.lo)
  obtain ⟨g, rfl⟩ := k0.sl
  clear k0 hx
  go_enter Try.func13, Try.ntmps13
  go_upto_region 1 with fail
  obtain ⟨W0, hW0⟩ : ∃ W, (w.alloc (.cells #[.slice (some ⟨g, 0, none⟩) l.length l.length] 29)).alloc (.cells #[.int .i64 0, .string ⟨#[]⟩] 34) = W := ⟨_, rfl⟩
  rw [hW0] at HS HK ⊢
  clear hW0
  have a0 : W0.cell? ⟨w.heap.size, 0, none⟩ = some (.slice (some ⟨g, 0, none⟩) l.length l.length) := row_cell HS.out.e 0
  go_wp2_with fail
  refine (implPlace_any l _ HX.out HK.out).mono ?_
  rintro e w2 ⟨hsy, hb2⟩
  have HS2 := hid (HS.out.next hb2)
  have HK2 := hid (HK.out.next hb2)
  clear hb2 a0
  by_cases hP : PlOk l
  · obtain rfl := hsy.pos hP
    clear hsy
    have HP := hid hP
    have h40 := hP.1
    clear hP
    have a0 : w2.cell? ⟨w.heap.size, 0, none⟩ = some (.slice (some ⟨g, 0, none⟩) l.length l.length) := row_cell HS2.out.e 0
    go_wp2_with fail
    refine (new_any l HK2.out HX.out (by omega)).mono ?_
    rintro e w3 ⟨b, v, m, rfl, hbx, hb3⟩
    have HS3 := hid (HS2.out.next hb3)
    have HBX := hid hbx
    clear hbx hb3 a0
    have HLN : Hid ((layN [] l).length ≤ 1000) := hid (by have := layN_len l []; simp at this; omega)
    have HSZ := hid (lay_sizes (M := 1048576) l [] (fun n hn => by cases hn) (fun x hx => (mem_low HX.out x hx).1))
    have HCP := hid (seeP_size (kind := kind) (t := t) HX.out HP.out)
    have HSE := hid (see_any kind t HBX.out HLN.out HSZ.out ht)
    obtain ⟨r, hr⟩ : ∃ r, seeP l kind t = r := ⟨_, rfl⟩
    have HR := hid hr
    have hr2 : seeR (layN [] l) (layF (fun _ => none) l) kind t = r := hr
    rw [hr2] at HSE
    rw [hr] at HCP
    clear hr hr2
    obtain ⟨rc, rt⟩ := r
    go_wp2_with fail
    refine HSE.out.mono ?_
    rintro e w4 ⟨rfl, hb4⟩
    have HS4 := hid (HS3.out.next hb4)
    clear hb4
    go_wp2_with fail
    refine (copied_any rc rt _ HCP.out).mono ?_
    rintro e w5 ⟨rfl, hb5⟩
    have HS5 := hid (HS4.out.next hb5)
    clear hb5
    have r0 : w5.cell? ⟨w.heap.size + 1, 0, none⟩ = some (.int .i64 0) := row_cell HS5.out.f 0
    have r1 : w5.cell? ⟨w.heap.size + 1, 1, none⟩ = some (.string ⟨#[]⟩) := row_cell HS5.out.f 1
    have z0 : w5.frozen? ⟨w.heap.size + 1, 0, none⟩ = false := (row_room HS5.out.f (i := 0) (by simp)).2
    have z1 : w5.frozen? ⟨w.heap.size + 1, 1, none⟩ = false := (row_room HS5.out.f (i := 1) (by simp)).2
    dsimp only
    go_wp2
    refine bodyPost_ret (v := .agg #[.int .i64 rc, .string rt]) (by simp [results, Try.results13, go_sem, r0, r1]) rfl ⟨(rc, rt), ⟨rfl, below_set (below_set HS5.out.lo _ _ (by omega) _) _ _ (by omega) _⟩, .inl ⟨HP.out, HR.out.symm⟩⟩
  · obtain rfl := hsy.neg hP
    clear hsy
    have HP := hid hP
    clear hP
    have r0 : w2.cell? ⟨w.heap.size + 1, 0, none⟩ = some (.int .i64 0) := row_cell HS2.out.f 0
    have r1 : w2.cell? ⟨w.heap.size + 1, 1, none⟩ = some (.string ⟨#[]⟩) := row_cell HS2.out.f 1
    have z0 : w2.frozen? ⟨w.heap.size + 1, 0, none⟩ = false := (row_room HS2.out.f (i := 0) (by simp)).2
    have z1 : w2.frozen? ⟨w.heap.size + 1, 1, none⟩ = false := (row_room HS2.out.f (i := 1) (by simp)).2
    go_wp2
    refine bodyPost_ret (v := .agg #[.int .i64 5, .string ⟨#[]⟩]) (by simp [results, Try.results13, go_sem, r0, r1]) rfl ⟨(5, emp), ⟨rfl, below_set (below_set HS2.out.lo _ _ (by omega) _) _ _ (by omega) _⟩, .inr ⟨HP.out, rfl⟩⟩
end Go.Proofs.Ytpligndiomblhaa.P
