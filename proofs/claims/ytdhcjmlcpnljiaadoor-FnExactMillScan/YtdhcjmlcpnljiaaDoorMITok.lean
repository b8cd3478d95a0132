import Derived.Test.YtdhcjmlcpnljiaaDoorMINum
/-! Printed by gen_tok.py. -/
namespace Go.Proofs.YtdhcjmlcpnljiaaDoor
open Go.RowKit Go.Shelf
set_option maxRecDepth 20000 in
set_option maxHeartbeats 1000000 in
theorem mReadTok_text (s : ByteArray) (r : Nat) (w : World) (hs : s.size ≤ 12000) (hp : 0 < s.size) (hq : ((s[0].toNat : Int) == 34) = true) :
    Calls Tryd.prog 35 #[.string s, .map (some r)] w fun e w' => e = .returned (moneV (mtext (s.data.toList.drop 1)) 0) ∧ Below w.heap.size w w' := by
  have HCALL : Hid (∀ X : Obj, Calls Tryd.prog 56 #[.string s] (w.alloc X) fun e w' => e = .returned (moneV (mtext (s.data.toList.drop 1)) 0) ∧ Below (w.alloc X).heap.size (w.alloc X) w') := fun X => mReadText_any s _ hs hp
  generalize hO : mtext (s.data.toList.drop 1) = O at *
  clear hO
  have hwc : IntKind.i32.wrap (s[0].toNat : Int) = (s[0].toNat : Int) := by have := s[0].toNat_lt; rw [IntKind.wrap_i32]; omega
  by_cases hc : O.code = 0
  · have HV : Hid (moneV O 0 = .tuple #[.agg #[.int .i64 O.kind, .string ⟨O.text.toArray⟩, .int .i64 O.ty, .int .i64 O.n, .int .i64 0], .int .i64 O.size, .int .i64 0]) := by show _ = _; unfold moneV; rw [if_pos hc]; simp
    clear hc
    go_enter Tryd.func35, Tryd.ntmps35
    go_wp2_with (first
      | (go_at_call 57; refine (millIsDigit_any _ _).mono ?_; rintro e w' ⟨rfl, hw⟩; have hw2 := hw.symm; clear hw; subst hw2)
      | (go_at_call 59; refine (millIsLetter_any _ _).mono ?_; rintro e w' ⟨rfl, hw⟩; have hw2 := hw.symm; clear hw; subst hw2)
      | (go_at_call 56; refine (HCALL.out _).mono ?_; rintro e w1 ⟨rfl, hb⟩; rw [HV.out]; have HB := hid hb; obtain ⟨⟨k0, k1, k2, k3, k4⟩, ⟨f0, f1, f2, f3, f4⟩⟩ := mtok_cells (hb.mono (by simp)); clear hb))
    refine bodyPost_ret (v := .tuple #[.agg #[.int .i64 O.kind, .string ⟨O.text.toArray⟩, .int .i64 O.ty, .int .i64 O.n, .int .i64 0], .int .i64 O.size, .int .i64 0]) (by simp [results, Tryd.results35, go_sem, k0, k1, k2, k3, k4]) rfl ⟨by rw [HV.out], ?_⟩
    exact below_set5 (below_mtok (HB.out.mono (by simp)))
  · have HV : Hid (moneV O 0 = .tuple #[.agg #[.int .i64 0, .string ⟨#[]⟩, .int .i64 0, .int .i64 0, .int .i64 0], .int .i64 0, .int .i64 O.code]) := if_neg hc
    clear hc
    go_enter Tryd.func35, Tryd.ntmps35
    go_wp2_with (first
      | (go_at_call 57; refine (millIsDigit_any _ _).mono ?_; rintro e w' ⟨rfl, hw⟩; have hw2 := hw.symm; clear hw; subst hw2)
      | (go_at_call 59; refine (millIsLetter_any _ _).mono ?_; rintro e w' ⟨rfl, hw⟩; have hw2 := hw.symm; clear hw; subst hw2)
      | (go_at_call 56; refine (HCALL.out _).mono ?_; rintro e w1 ⟨rfl, hb⟩; rw [HV.out]; have HB := hid hb; obtain ⟨⟨k0, k1, k2, k3, k4⟩, ⟨f0, f1, f2, f3, f4⟩⟩ := mtok_cells (hb.mono (by simp)); clear hb))
    refine bodyPost_ret (v := .tuple #[.agg #[.int .i64 0, .string ⟨#[]⟩, .int .i64 0, .int .i64 0, .int .i64 0], .int .i64 0, .int .i64 O.code]) (by simp [results, Tryd.results35, go_sem, k0, k1, k2, k3, k4]) rfl ⟨by rw [HV.out], ?_⟩
    exact below_set5 (below_mtok (HB.out.mono (by simp)))
set_option maxRecDepth 20000 in
set_option maxHeartbeats 1000000 in
theorem mReadTok_num (s : ByteArray) (r : Nat) (w : World) (hs : s.size ≤ 12000) (hp : 0 < s.size) (hq : ((s[0].toNat : Int) == 34) = false) (hd : dig (s[0].toNat : Int) = true) (hr : w.heap[r]? = some (.map (mwE 35) 35)) (hE : EnvM w) :
    Calls Tryd.prog 35 #[.string s, .map (some r)] w fun e w' => e = .returned (moneV (mnum s.data.toList) 0) ∧ Below w.heap.size w w' := by
  have HEn : Hid (∀ X : Obj, EnvM (w.alloc X)) := fun X => hE.below ((Below.refl _ _).alloc (Nat.le_refl _) _)
  have hrl : r < w.heap.size := (Array.getElem?_eq_some_iff.1 hr).1
  have HR : Hid (∀ X : Obj, (w.alloc X).heap[r]? = some (.map (mwE 35) 35)) := fun X => (Below.heap_alloc w X r hrl).trans hr
  have HCALL : Hid (∀ X : Obj, Calls Tryd.prog 58 #[.string s, .map (some r)] (w.alloc X) fun e w' => e = .returned (moneV (mnum s.data.toList) 0) ∧ Below (w.alloc X).heap.size (w.alloc X) w') := fun X => mReadNumber_any s r _ hs hp hd (HR.out X) (HEn.out X)
  generalize hO : mnum s.data.toList = O at *
  clear hO
  have hwc : IntKind.i32.wrap (s[0].toNat : Int) = (s[0].toNat : Int) := by have := s[0].toNat_lt; rw [IntKind.wrap_i32]; omega
  by_cases hc : O.code = 0
  · have HV : Hid (moneV O 0 = .tuple #[.agg #[.int .i64 O.kind, .string ⟨O.text.toArray⟩, .int .i64 O.ty, .int .i64 O.n, .int .i64 0], .int .i64 O.size, .int .i64 0]) := by show _ = _; unfold moneV; rw [if_pos hc]; simp
    clear hc
    go_enter Tryd.func35, Tryd.ntmps35
    go_wp2_with (first
      | (go_at_call 57; refine (millIsDigit_any _ _).mono ?_; rintro e w' ⟨rfl, hw⟩; have hw2 := hw.symm; clear hw; subst hw2)
      | (go_at_call 59; refine (millIsLetter_any _ _).mono ?_; rintro e w' ⟨rfl, hw⟩; have hw2 := hw.symm; clear hw; subst hw2)
      | (go_at_call 58; refine (HCALL.out _).mono ?_; rintro e w1 ⟨rfl, hb⟩; rw [HV.out]; have HB := hid hb; obtain ⟨⟨k0, k1, k2, k3, k4⟩, ⟨f0, f1, f2, f3, f4⟩⟩ := mtok_cells (hb.mono (by simp)); clear hb))
    refine bodyPost_ret (v := .tuple #[.agg #[.int .i64 O.kind, .string ⟨O.text.toArray⟩, .int .i64 O.ty, .int .i64 O.n, .int .i64 0], .int .i64 O.size, .int .i64 0]) (by simp [results, Tryd.results35, go_sem, k0, k1, k2, k3, k4]) rfl ⟨by rw [HV.out], ?_⟩
    exact below_set5 (below_mtok (HB.out.mono (by simp)))
  · have HV : Hid (moneV O 0 = .tuple #[.agg #[.int .i64 0, .string ⟨#[]⟩, .int .i64 0, .int .i64 0, .int .i64 0], .int .i64 0, .int .i64 O.code]) := if_neg hc
    clear hc
    go_enter Tryd.func35, Tryd.ntmps35
    go_wp2_with (first
      | (go_at_call 57; refine (millIsDigit_any _ _).mono ?_; rintro e w' ⟨rfl, hw⟩; have hw2 := hw.symm; clear hw; subst hw2)
      | (go_at_call 59; refine (millIsLetter_any _ _).mono ?_; rintro e w' ⟨rfl, hw⟩; have hw2 := hw.symm; clear hw; subst hw2)
      | (go_at_call 58; refine (HCALL.out _).mono ?_; rintro e w1 ⟨rfl, hb⟩; rw [HV.out]; have HB := hid hb; obtain ⟨⟨k0, k1, k2, k3, k4⟩, ⟨f0, f1, f2, f3, f4⟩⟩ := mtok_cells (hb.mono (by simp)); clear hb))
    refine bodyPost_ret (v := .tuple #[.agg #[.int .i64 0, .string ⟨#[]⟩, .int .i64 0, .int .i64 0, .int .i64 0], .int .i64 0, .int .i64 O.code]) (by simp [results, Tryd.results35, go_sem, k0, k1, k2, k3, k4]) rfl ⟨by rw [HV.out], ?_⟩
    exact below_set5 (below_mtok (HB.out.mono (by simp)))
set_option maxRecDepth 20000 in
set_option maxHeartbeats 1000000 in
theorem mReadTok_name (s : ByteArray) (r : Nat) (w : World) (hs : s.size ≤ 12000) (hp : 0 < s.size) (hq : ((s[0].toNat : Int) == 34) = false) (hd : dig (s[0].toNat : Int) = false) (hl : mlt (s[0].toNat : Int) = true) (hr : w.heap[r]? = some (.map (mwE 35) 35)) :
    Calls Tryd.prog 35 #[.string s, .map (some r)] w fun e w' => e = .returned (moneV (mname s.data.toList) 0) ∧ Below w.heap.size w w' := by
  have hrl : r < w.heap.size := (Array.getElem?_eq_some_iff.1 hr).1
  have HR : Hid (∀ X : Obj, (w.alloc X).heap[r]? = some (.map (mwE 35) 35)) := fun X => (Below.heap_alloc w X r hrl).trans hr
  have HCALL : Hid (∀ X : Obj, Calls Tryd.prog 60 #[.string s, .map (some r)] (w.alloc X) fun e w' => e = .returned (moneV (mname s.data.toList) 0) ∧ Below (w.alloc X).heap.size (w.alloc X) w') := fun X => mReadName_any s r _ hs (HR.out X)
  generalize hO : mname s.data.toList = O at *
  clear hO
  have hwc : IntKind.i32.wrap (s[0].toNat : Int) = (s[0].toNat : Int) := by have := s[0].toNat_lt; rw [IntKind.wrap_i32]; omega
  by_cases hc : O.code = 0
  · have HV : Hid (moneV O 0 = .tuple #[.agg #[.int .i64 O.kind, .string ⟨O.text.toArray⟩, .int .i64 O.ty, .int .i64 O.n, .int .i64 0], .int .i64 O.size, .int .i64 0]) := by show _ = _; unfold moneV; rw [if_pos hc]; simp
    clear hc
    go_enter Tryd.func35, Tryd.ntmps35
    go_wp2_with (first
      | (go_at_call 57; refine (millIsDigit_any _ _).mono ?_; rintro e w' ⟨rfl, hw⟩; have hw2 := hw.symm; clear hw; subst hw2)
      | (go_at_call 59; refine (millIsLetter_any _ _).mono ?_; rintro e w' ⟨rfl, hw⟩; have hw2 := hw.symm; clear hw; subst hw2)
      | (go_at_call 60; refine (HCALL.out _).mono ?_; rintro e w1 ⟨rfl, hb⟩; rw [HV.out]; have HB := hid hb; obtain ⟨⟨k0, k1, k2, k3, k4⟩, ⟨f0, f1, f2, f3, f4⟩⟩ := mtok_cells (hb.mono (by simp)); clear hb))
    refine bodyPost_ret (v := .tuple #[.agg #[.int .i64 O.kind, .string ⟨O.text.toArray⟩, .int .i64 O.ty, .int .i64 O.n, .int .i64 0], .int .i64 O.size, .int .i64 0]) (by simp [results, Tryd.results35, go_sem, k0, k1, k2, k3, k4]) rfl ⟨by rw [HV.out], ?_⟩
    exact below_set5 (below_mtok (HB.out.mono (by simp)))
  · have HV : Hid (moneV O 0 = .tuple #[.agg #[.int .i64 0, .string ⟨#[]⟩, .int .i64 0, .int .i64 0, .int .i64 0], .int .i64 0, .int .i64 O.code]) := if_neg hc
    clear hc
    go_enter Tryd.func35, Tryd.ntmps35
    go_wp2_with (first
      | (go_at_call 57; refine (millIsDigit_any _ _).mono ?_; rintro e w' ⟨rfl, hw⟩; have hw2 := hw.symm; clear hw; subst hw2)
      | (go_at_call 59; refine (millIsLetter_any _ _).mono ?_; rintro e w' ⟨rfl, hw⟩; have hw2 := hw.symm; clear hw; subst hw2)
      | (go_at_call 60; refine (HCALL.out _).mono ?_; rintro e w1 ⟨rfl, hb⟩; rw [HV.out]; have HB := hid hb; obtain ⟨⟨k0, k1, k2, k3, k4⟩, ⟨f0, f1, f2, f3, f4⟩⟩ := mtok_cells (hb.mono (by simp)); clear hb))
    refine bodyPost_ret (v := .tuple #[.agg #[.int .i64 0, .string ⟨#[]⟩, .int .i64 0, .int .i64 0, .int .i64 0], .int .i64 0, .int .i64 O.code]) (by simp [results, Tryd.results35, go_sem, k0, k1, k2, k3, k4]) rfl ⟨by rw [HV.out], ?_⟩
    exact below_set5 (below_mtok (HB.out.mono (by simp)))
set_option maxRecDepth 20000 in
set_option maxHeartbeats 1000000 in
theorem mReadTok_mark (s : ByteArray) (r : Nat) (w : World) (_hs : s.size ≤ 12000) (hp : 0 < s.size) (hq : ((s[0].toNat : Int) == 34) = false) (hd : dig (s[0].toNat : Int) = false) (hl : mlt (s[0].toNat : Int) = false) (hE : EnvM w) :
    Calls Tryd.prog 35 #[.string s, .map (some r)] w fun e w' => e = .returned (moneV (mmark s.data.toList) 0) ∧ Below w.heap.size w w' := by
  have HEn : Hid (∀ X : Obj, EnvM (w.alloc X)) := fun X => hE.below ((Below.refl _ _).alloc (Nat.le_refl _) _)
  have HCALL : Hid (∀ X : Obj, Calls Tryd.prog 61 #[.string s] (w.alloc X) fun e w' => e = .returned (moneV (mmark s.data.toList) 0) ∧ Below (w.alloc X).heap.size (w.alloc X) w') := fun X => mReadMark_any s _ (HEn.out X)
  generalize hO : mmark s.data.toList = O at *
  clear hO
  have hwc : IntKind.i32.wrap (s[0].toNat : Int) = (s[0].toNat : Int) := by have := s[0].toNat_lt; rw [IntKind.wrap_i32]; omega
  by_cases hc : O.code = 0
  · have HV : Hid (moneV O 0 = .tuple #[.agg #[.int .i64 O.kind, .string ⟨O.text.toArray⟩, .int .i64 O.ty, .int .i64 O.n, .int .i64 0], .int .i64 O.size, .int .i64 0]) := by show _ = _; unfold moneV; rw [if_pos hc]; simp
    clear hc
    go_enter Tryd.func35, Tryd.ntmps35
    go_wp2_with (first
      | (go_at_call 57; refine (millIsDigit_any _ _).mono ?_; rintro e w' ⟨rfl, hw⟩; have hw2 := hw.symm; clear hw; subst hw2)
      | (go_at_call 59; refine (millIsLetter_any _ _).mono ?_; rintro e w' ⟨rfl, hw⟩; have hw2 := hw.symm; clear hw; subst hw2)
      | (go_at_call 61; refine (HCALL.out _).mono ?_; rintro e w1 ⟨rfl, hb⟩; rw [HV.out]; have HB := hid hb; obtain ⟨⟨k0, k1, k2, k3, k4⟩, ⟨f0, f1, f2, f3, f4⟩⟩ := mtok_cells (hb.mono (by simp)); clear hb))
    refine bodyPost_ret (v := .tuple #[.agg #[.int .i64 O.kind, .string ⟨O.text.toArray⟩, .int .i64 O.ty, .int .i64 O.n, .int .i64 0], .int .i64 O.size, .int .i64 0]) (by simp [results, Tryd.results35, go_sem, k0, k1, k2, k3, k4]) rfl ⟨by rw [HV.out], ?_⟩
    exact below_set5 (below_mtok (HB.out.mono (by simp)))
  · have HV : Hid (moneV O 0 = .tuple #[.agg #[.int .i64 0, .string ⟨#[]⟩, .int .i64 0, .int .i64 0, .int .i64 0], .int .i64 0, .int .i64 O.code]) := if_neg hc
    clear hc
    go_enter Tryd.func35, Tryd.ntmps35
    go_wp2_with (first
      | (go_at_call 57; refine (millIsDigit_any _ _).mono ?_; rintro e w' ⟨rfl, hw⟩; have hw2 := hw.symm; clear hw; subst hw2)
      | (go_at_call 59; refine (millIsLetter_any _ _).mono ?_; rintro e w' ⟨rfl, hw⟩; have hw2 := hw.symm; clear hw; subst hw2)
      | (go_at_call 61; refine (HCALL.out _).mono ?_; rintro e w1 ⟨rfl, hb⟩; rw [HV.out]; have HB := hid hb; obtain ⟨⟨k0, k1, k2, k3, k4⟩, ⟨f0, f1, f2, f3, f4⟩⟩ := mtok_cells (hb.mono (by simp)); clear hb))
    refine bodyPost_ret (v := .tuple #[.agg #[.int .i64 0, .string ⟨#[]⟩, .int .i64 0, .int .i64 0, .int .i64 0], .int .i64 0, .int .i64 O.code]) (by simp [results, Tryd.results35, go_sem, k0, k1, k2, k3, k4]) rfl ⟨by rw [HV.out], ?_⟩
    exact below_set5 (below_mtok (HB.out.mono (by simp)))
/-- One token of the program's own. -/
theorem mReadTok_any (s : ByteArray) (r : Nat) (w : World) (hs : s.size ≤ 12000) (hp : 0 < s.size) (hr : w.heap[r]? = some (.map (mwE 35) 35)) (hE : EnvM w) :
    Calls Tryd.prog 35 #[.string s, .map (some r)] w fun e w' => e = .returned (moneV (mone s.data.toList) 0) ∧ Below w.heap.size w w' := by
  have hd := head_eq s hp
  have ht : s.data.toList.tail = s.data.toList.drop 1 := by simp
  have ho : mone s.data.toList = if s[0].toNat = 34 then mtext (s.data.toList.drop 1) else if digB s[0] = true then mnum s.data.toList else if mltB s[0] = true then mname s.data.toList else mmark s.data.toList := by
    rw [← ht]
    generalize s.data.toList.tail = t at hd
    rw [hd]; rfl
  rw [ho]
  by_cases h1 : s[0].toNat = 34
  · rw [if_pos h1]; exact mReadTok_text s r w hs hp (by rw [beq_iff_eq]; omega)
  · rw [if_neg h1]
    have h1' : ((s[0].toNat : Int) == 34) = false := by rw [beq_eq_false_iff_ne]; omega
    by_cases h2 : digB s[0] = true
    · rw [if_pos h2]; exact mReadTok_num s r w hs hp h1' h2 hr hE
    · rw [if_neg h2]
      have h2' : dig (s[0].toNat : Int) = false := by simpa [digB] using h2
      by_cases h3 : mltB s[0] = true
      · rw [if_pos h3]; exact mReadTok_name s r w hs hp h1' h2' h3 hr
      · rw [if_neg h3]; exact mReadTok_mark s r w hs hp h1' h2' (by simpa [mltB] using h3) hE
end Go.Proofs.YtdhcjmlcpnljiaaDoor
