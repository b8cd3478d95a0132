import Derived.Laws.StructEq
import Derived.Test.YtfookokepnnmoaaDoorJIMeth
namespace Go.Proofs.YtfookokepnnmoaaDoor
open Go.RowKit
set_option maxRecDepth 20000
/-- What clayThingOver hands back: the thing, or that there is none. -/
def OverEnd (S : Nat → Prop) (w' : World) (e : Ending) (t : Tr) : Prop :=
  (Good t ∧ ∃ v, e = .returned (.tuple #[v, .bool true]) ∧ IsTh S w' t v) ∨ (¬ Good t ∧ ∃ v, e = .returned (.tuple #[v, .bool false]))
theorem good_leaf {k n : Int} {t : ByteArray} (h : LocOk k n t []) : Good (.node k n t []) := by
  refine good_node.2 ⟨h, by simp, by simp [highs], by simp [flats]⟩
theorem bytes_nil {t : ByteArray} (h : t.toList = []) : t = ⟨#[]⟩ := by
  rw [Lib.toList_data] at h
  exact ByteArray.ext (Array.toList_inj.1 (by simpa using h))
theorem nil_bytes : (⟨#[]⟩ : ByteArray).toList = [] := by rw [Lib.toList_data]
def eqB (k n : Int) (t : ByteArray) (kd k' n' : Int) (t' : ByteArray) (kd' : Int) : Bool := k == k' && n == n' && t.toList == t'.toList && kd == kd'
theorem eqB_iff {k n : Int} {t : ByteArray} {kd k' n' : Int} {t' : ByteArray} {kd' : Int} : eqB k n t kd k' n' t' kd' = true ↔ k = k' ∧ n = n' ∧ t.toList = t'.toList ∧ kd = kd' := by
  unfold eqB; simp [and_assoc]
theorem eqB_false {k n : Int} {t : ByteArray} {kd k' n' : Int} {t' : ByteArray} {kd' : Int} (h : ¬ (k = k' ∧ n = n' ∧ t.toList = t'.toList ∧ kd = kd')) : eqB k n t kd k' n' t' kd' = false := by
  cases he : eqB k n t kd k' n' t' kd'
  · rfl
  · exact absurd (eqB_iff.1 he) h
theorem eqA (k n kd k' n' kd' : Int) (t t' : ByteArray) (w : World) : (Op.equalIn 10000 51 (.agg #[.int .i64 k, .int .i64 n, .string t, .int .i64 kd]) (.agg #[.int .i64 k', .int .i64 n', .string t', .int .i64 kd'])).run Tryd.prog w = .ok (eqB k n t kd k' n' t' kd') w := by
  have u3 := Tryd.underlying3
  have u2 := Tryd.underlying2
  have u9 := Tryd.underlying9
  have hS : Tryd.prog.underlying 51 = some (.struct (Tryd.prog.fieldsOf 51)) := by kernel_rfl
  have hp : Tryd.prog.stoodInHeld 51 = false := by kernel_rfl
  rw [show (10000 : Nat) = 9999 + 1 from rfl, run_equalIn_agg w 9999 51 _ _ hS hp]
  simp only [Program.fieldsOf, Tryd.underlying51]
  go_simp
  unfold eqB
  by_cases h1 : k = k' <;> by_cases h2 : n = n' <;> by_cases h3 : t.toList = t'.toList <;> by_cases h4 : kd = kd' <;> simp [h1, h2, h3, h4]
theorem eqBin (k n kd k' n' kd' : Int) (t t' : ByteArray) (w : World) : (binOp .eql 51 (.agg #[.int .i64 k, .int .i64 n, .string t, .int .i64 kd]) (.agg #[.int .i64 k', .int .i64 n', .string t', .int .i64 kd'])).run Tryd.prog w = .ok (.bool (eqB k n t kd k' n' t' kd')) w := by
  rw [run_eql_struct, eqA]; rfl
theorem gBox (w : World) (X : Obj) (p : Gr (w.alloc X)) : Below w.heap.size w p.W := ((Below.refl w.heap.size w).alloc (Nat.le_refl _) X).trans (p.h.mono (by simp))
theorem four_gr {w : World} {a b c d : Value} {t : TypeId} (p : Gr (w.alloc (.cells #[a, b, c, d] t))) : p.W.cell? ⟨w.heap.size, 0, none⟩ = some a ∧ p.W.cell? ⟨w.heap.size, 1, none⟩ = some b ∧ p.W.cell? ⟨w.heap.size, 2, none⟩ = some c ∧ p.W.cell? ⟨w.heap.size, 3, none⟩ = some d := by
  have f : ∀ i, p.W.cell? ⟨w.heap.size, i, none⟩ = #[a, b, c, d][i]? := fun i => by
    rw [p.h.cell (p := ⟨w.heap.size, i, none⟩) (by simp), cell_new_row]
  exact ⟨f 0, f 1, f 2, f 3⟩
set_option maxHeartbeats 1000000 in
theorem over_none (S : Nat → Prop) (n : Int) (t : ByteArray) (ad : Option Addr) (N cap : Nat) (ks : List Tr) (w : World) (hN : ks.length = N) (_ht : t.size ≤ maxLen) :
    Calls Tryd.prog 30 #[.agg #[.int .i64 1, .int .i64 n, .string t, .int .i64 N], .slice ad N cap] w fun e w' => Below w.heap.size w w' ∧ OverEnd S w' e (.node 1 n t ks) := by
  unfold maxLen at _ht
  have eqa := eqBin 1 (0) (0) 1 n N (⟨#[]⟩) t
  obtain ⟨T, x, f, rv, hv, m1, m2, m3⟩ := aNone 
  cases hv
  have M3 := hid m3
  have HGD : Hid (Good (.node 1 n t ks) ↔ eqB 1 (0) (⟨#[]⟩) (0) 1 n t N = true) := by
    rw [eqB_iff, nil_bytes]
    constructor
    · intro h
      have hl := (good_node.1 h).1
      unfold LocOk at hl
      have h0 : ks = [] → N = 0 := fun h => by rw [← hN, h]; rfl
      grind
    · rintro ⟨_, e1, e2, e3⟩
      have hk0 : ks = [] := List.length_eq_zero_iff.1 (by omega)
      subst hk0
      refine good_leaf ?_
      unfold LocOk
      grind
  have HTH : Hid (∀ W, IsTh S W (.node 1 n t ks) (.iface 99 (.agg #[]))) := fun W => by simp [IsTh]
  clear m3 hN
  generalize hB : eqB 1 (0) (⟨#[]⟩) (0) 1 n t N = B at *
  clear hB
  go_enter Tryd.func30, Tryd.ntmps30
  go_wp2_with fail
  have q0 := fun p : Gr (w.alloc (.cells #[.int .i64 1, .int .i64 n, .string t, .int .i64 N] 51)) => (four_gr p).1
  have q1 := fun p : Gr (w.alloc (.cells #[.int .i64 1, .int .i64 n, .string t, .int .i64 N] 51)) => (four_gr p).2.1
  have q2 := fun p : Gr (w.alloc (.cells #[.int .i64 1, .int .i64 n, .string t, .int .i64 N] 51)) => (four_gr p).2.2.1
  have q3 := fun p : Gr (w.alloc (.cells #[.int .i64 1, .int .i64 n, .string t, .int .i64 N] 51)) => (four_gr p).2.2.2
  have hne : Nonempty (Gr (w.alloc (.cells #[.int .i64 1, .int .i64 n, .string t, .int .i64 N] 51))) := ⟨⟨_, Below.refl _ _⟩⟩
  refine wp_region_gr (by kernel_rfl) (by kernel_rfl) ?_
  repeat (first | go_big_quiet_step ((refine Calls.gr_of (v := .agg #[.int .i64 (1), .int .i64 (0), .string (⟨#[]⟩), .int .i64 (0)]) fun _ => ?_; exact M3.out _)) | quiet_step ((refine Calls.gr_of (v := .agg #[.int .i64 (1), .int .i64 (0), .string (⟨#[]⟩), .int .i64 (0)]) fun _ => ?_; exact M3.out _)))
  refine wpQuiet_nil ?_
  intro _ hw'
  obtain ⟨pw, rfl⟩ := hw'
  have HB4 := hid (gBox _ _ pw)
  clear q0 q1 q2 q3
  go_wp2
  cases B
  · exact bodyPost_ret (v := .tuple #[.iface 99 (.agg #[]), .bool false]) (by simp [results, Tryd.results30, go_sem]) rfl ⟨HB4.out, .inr ⟨(fun h => by have := HGD.out.1 h; cases this), _, rfl⟩⟩
  · exact bodyPost_ret (v := .tuple #[.iface 99 (.agg #[]), .bool true]) (by simp [results, Tryd.results30, go_sem]) rfl ⟨HB4.out, .inl ⟨HGD.out.2 rfl, _, rfl, HTH.out _⟩⟩
set_option maxHeartbeats 1000000 in
theorem over_bool_t (S : Nat → Prop) (t : ByteArray) (ad : Option Addr) (N cap : Nat) (ks : List Tr) (w : World) (hN : ks.length = N) (_ht : t.size ≤ maxLen) :
    Calls Tryd.prog 30 #[.agg #[.int .i64 2, .int .i64 1, .string t, .int .i64 N], .slice ad N cap] w fun e w' => Below w.heap.size w w' ∧ OverEnd S w' e (.node 2 1 t ks) := by
  unfold maxLen at _ht
  have eqa := eqBin 2 (1) (0) 2 1 N (⟨#[]⟩) t
  obtain ⟨T, x, f, rv, hv, m1, m2, m3⟩ := aBool true 
  cases hv
  have M3 := hid m3
  have HGD : Hid (Good (.node 2 1 t ks) ↔ eqB 2 (1) (⟨#[]⟩) (0) 2 1 t N = true) := by
    rw [eqB_iff, nil_bytes]
    constructor
    · intro h
      have hl := (good_node.1 h).1
      unfold LocOk at hl
      have h0 : ks = [] → N = 0 := fun h => by rw [← hN, h]; rfl
      grind
    · rintro ⟨_, e1, e2, e3⟩
      have hk0 : ks = [] := List.length_eq_zero_iff.1 (by omega)
      subst hk0
      refine good_leaf ?_
      unfold LocOk
      grind
  have HTH : Hid (∀ W, IsTh S W (.node 2 1 t ks) (.iface 100 (.bool true))) := fun W => by simp [IsTh]
  clear m3 hN
  generalize hB : eqB 2 (1) (⟨#[]⟩) (0) 2 1 t N = B at *
  clear hB
  go_enter Tryd.func30, Tryd.ntmps30
  go_wp2_with fail
  have q0 := fun p : Gr (w.alloc (.cells #[.int .i64 2, .int .i64 1, .string t, .int .i64 N] 51)) => (four_gr p).1
  have q1 := fun p : Gr (w.alloc (.cells #[.int .i64 2, .int .i64 1, .string t, .int .i64 N] 51)) => (four_gr p).2.1
  have q2 := fun p : Gr (w.alloc (.cells #[.int .i64 2, .int .i64 1, .string t, .int .i64 N] 51)) => (four_gr p).2.2.1
  have q3 := fun p : Gr (w.alloc (.cells #[.int .i64 2, .int .i64 1, .string t, .int .i64 N] 51)) => (four_gr p).2.2.2
  have hne : Nonempty (Gr (w.alloc (.cells #[.int .i64 2, .int .i64 1, .string t, .int .i64 N] 51))) := ⟨⟨_, Below.refl _ _⟩⟩
  refine wp_region_gr (by kernel_rfl) (by kernel_rfl) ?_
  repeat (first | go_big_quiet_step ((refine Calls.gr_of (v := .agg #[.int .i64 (2), .int .i64 (1), .string (⟨#[]⟩), .int .i64 (0)]) fun _ => ?_; exact M3.out _)) | quiet_step ((refine Calls.gr_of (v := .agg #[.int .i64 (2), .int .i64 (1), .string (⟨#[]⟩), .int .i64 (0)]) fun _ => ?_; exact M3.out _)))
  refine wpQuiet_nil ?_
  intro _ hw'
  obtain ⟨pw, rfl⟩ := hw'
  have HB4 := hid (gBox _ _ pw)
  clear q0 q1 q2 q3
  go_wp2
  cases B
  · exact bodyPost_ret (v := .tuple #[.iface 100 (.bool true), .bool false]) (by simp [results, Tryd.results30, go_sem]) rfl ⟨HB4.out, .inr ⟨(fun h => by have := HGD.out.1 h; cases this), _, rfl⟩⟩
  · exact bodyPost_ret (v := .tuple #[.iface 100 (.bool true), .bool true]) (by simp [results, Tryd.results30, go_sem]) rfl ⟨HB4.out, .inl ⟨HGD.out.2 rfl, _, rfl, HTH.out _⟩⟩
set_option maxHeartbeats 1000000 in
theorem over_bool_f (S : Nat → Prop) (n : Int) (t : ByteArray) (ad : Option Addr) (N cap : Nat) (ks : List Tr) (w : World) (hn1 : (n == 1) = false) (hN : ks.length = N) (_ht : t.size ≤ maxLen) :
    Calls Tryd.prog 30 #[.agg #[.int .i64 2, .int .i64 n, .string t, .int .i64 N], .slice ad N cap] w fun e w' => Below w.heap.size w w' ∧ OverEnd S w' e (.node 2 n t ks) := by
  unfold maxLen at _ht
  have eqa := eqBin 2 (0) (0) 2 n N (⟨#[]⟩) t
  obtain ⟨T, x, f, rv, hv, m1, m2, m3⟩ := aBool false 
  cases hv
  have M3 := hid m3
  have HGD : Hid (Good (.node 2 n t ks) ↔ eqB 2 (0) (⟨#[]⟩) (0) 2 n t N = true) := by
    rw [eqB_iff, nil_bytes]
    constructor
    · intro h
      have hl := (good_node.1 h).1
      have hn2 : ¬ n = 1 := by simpa using hn1
      unfold LocOk at hl
      have h0 : ks = [] → N = 0 := fun h => by rw [← hN, h]; rfl
      grind
    · rintro ⟨_, e1, e2, e3⟩
      have hk0 : ks = [] := List.length_eq_zero_iff.1 (by omega)
      subst hk0
      refine good_leaf ?_
      unfold LocOk
      grind
  have HTH : Hid (∀ W, IsTh S W (.node 2 n t ks) (.iface 100 (.bool false))) := fun W => by simp [IsTh, hn1]
  clear m3 hN
  generalize hB : eqB 2 (0) (⟨#[]⟩) (0) 2 n t N = B at *
  clear hB
  go_enter Tryd.func30, Tryd.ntmps30
  go_wp2_with fail
  have q0 := fun p : Gr (w.alloc (.cells #[.int .i64 2, .int .i64 n, .string t, .int .i64 N] 51)) => (four_gr p).1
  have q1 := fun p : Gr (w.alloc (.cells #[.int .i64 2, .int .i64 n, .string t, .int .i64 N] 51)) => (four_gr p).2.1
  have q2 := fun p : Gr (w.alloc (.cells #[.int .i64 2, .int .i64 n, .string t, .int .i64 N] 51)) => (four_gr p).2.2.1
  have q3 := fun p : Gr (w.alloc (.cells #[.int .i64 2, .int .i64 n, .string t, .int .i64 N] 51)) => (four_gr p).2.2.2
  have hne : Nonempty (Gr (w.alloc (.cells #[.int .i64 2, .int .i64 n, .string t, .int .i64 N] 51))) := ⟨⟨_, Below.refl _ _⟩⟩
  refine wp_region_gr (by kernel_rfl) (by kernel_rfl) ?_
  repeat (first | go_big_quiet_step ((refine Calls.gr_of (v := .agg #[.int .i64 (2), .int .i64 (0), .string (⟨#[]⟩), .int .i64 (0)]) fun _ => ?_; exact M3.out _)) | quiet_step ((refine Calls.gr_of (v := .agg #[.int .i64 (2), .int .i64 (0), .string (⟨#[]⟩), .int .i64 (0)]) fun _ => ?_; exact M3.out _)))
  refine wpQuiet_nil ?_
  intro _ hw'
  obtain ⟨pw, rfl⟩ := hw'
  have HB4 := hid (gBox _ _ pw)
  clear q0 q1 q2 q3
  go_wp2
  cases B
  · exact bodyPost_ret (v := .tuple #[.iface 100 (.bool false), .bool false]) (by simp [results, Tryd.results30, go_sem]) rfl ⟨HB4.out, .inr ⟨(fun h => by have := HGD.out.1 h; cases this), _, rfl⟩⟩
  · exact bodyPost_ret (v := .tuple #[.iface 100 (.bool false), .bool true]) (by simp [results, Tryd.results30, go_sem]) rfl ⟨HB4.out, .inl ⟨HGD.out.2 rfl, _, rfl, HTH.out _⟩⟩
theorem over_bool (S : Nat → Prop) (n : Int) (t : ByteArray) (ad : Option Addr) (N cap : Nat) (ks : List Tr) (w : World) (hN : ks.length = N) (ht : t.size ≤ maxLen) :
    Calls Tryd.prog 30 #[.agg #[.int .i64 2, .int .i64 n, .string t, .int .i64 N], .slice ad N cap] w fun e w' => Below w.heap.size w w' ∧ OverEnd S w' e (.node 2 n t ks) := by
  by_cases h : n = 1
  · subst h; exact over_bool_t S t ad N cap ks w hN ht
  · exact over_bool_f S n t ad N cap ks w (by simpa using h) hN ht
set_option maxHeartbeats 1000000 in
theorem over_int (S : Nat → Prop) (n : Int) (t : ByteArray) (ad : Option Addr) (N cap : Nat) (ks : List Tr) (w : World) (hN : ks.length = N) (_ht : t.size ≤ maxLen) :
    Calls Tryd.prog 30 #[.agg #[.int .i64 3, .int .i64 n, .string t, .int .i64 N], .slice ad N cap] w fun e w' => Below w.heap.size w w' ∧ OverEnd S w' e (.node 3 n t ks) := by
  unfold maxLen at _ht
  have eqa := eqBin 3 (n) (0) 3 n N (⟨#[]⟩) t
  obtain ⟨T, x, f, rv, hv, m1, m2, m3⟩ := aInt n 
  cases hv
  have M3 := hid m3
  have HGD : Hid (Good (.node 3 n t ks) ↔ eqB 3 (n) (⟨#[]⟩) (0) 3 n t N = true) := by
    rw [eqB_iff, nil_bytes]
    constructor
    · intro h
      have hl := (good_node.1 h).1
      unfold LocOk at hl
      have h0 : ks = [] → N = 0 := fun h => by rw [← hN, h]; rfl
      grind
    · rintro ⟨_, e1, e2, e3⟩
      have hk0 : ks = [] := List.length_eq_zero_iff.1 (by omega)
      subst hk0
      refine good_leaf ?_
      unfold LocOk
      grind
  have HTH : Hid (∀ W, IsTh S W (.node 3 n t ks) (.iface 101 (.int .i64 n))) := fun W => by simp [IsTh]
  clear m3 hN
  generalize hB : eqB 3 (n) (⟨#[]⟩) (0) 3 n t N = B at *
  clear hB
  go_enter Tryd.func30, Tryd.ntmps30
  go_wp2_with fail
  have q0 := fun p : Gr (w.alloc (.cells #[.int .i64 3, .int .i64 n, .string t, .int .i64 N] 51)) => (four_gr p).1
  have q1 := fun p : Gr (w.alloc (.cells #[.int .i64 3, .int .i64 n, .string t, .int .i64 N] 51)) => (four_gr p).2.1
  have q2 := fun p : Gr (w.alloc (.cells #[.int .i64 3, .int .i64 n, .string t, .int .i64 N] 51)) => (four_gr p).2.2.1
  have q3 := fun p : Gr (w.alloc (.cells #[.int .i64 3, .int .i64 n, .string t, .int .i64 N] 51)) => (four_gr p).2.2.2
  have hne : Nonempty (Gr (w.alloc (.cells #[.int .i64 3, .int .i64 n, .string t, .int .i64 N] 51))) := ⟨⟨_, Below.refl _ _⟩⟩
  refine wp_region_gr (by kernel_rfl) (by kernel_rfl) ?_
  repeat (first | go_big_quiet_step ((refine Calls.gr_of (v := .agg #[.int .i64 (3), .int .i64 (n), .string (⟨#[]⟩), .int .i64 (0)]) fun _ => ?_; exact M3.out _)) | quiet_step ((refine Calls.gr_of (v := .agg #[.int .i64 (3), .int .i64 (n), .string (⟨#[]⟩), .int .i64 (0)]) fun _ => ?_; exact M3.out _)))
  refine wpQuiet_nil ?_
  intro _ hw'
  obtain ⟨pw, rfl⟩ := hw'
  have HB4 := hid (gBox _ _ pw)
  clear q0 q1 q2 q3
  go_wp2
  cases B
  · exact bodyPost_ret (v := .tuple #[.iface 101 (.int .i64 n), .bool false]) (by simp [results, Tryd.results30, go_sem]) rfl ⟨HB4.out, .inr ⟨(fun h => by have := HGD.out.1 h; cases this), _, rfl⟩⟩
  · exact bodyPost_ret (v := .tuple #[.iface 101 (.int .i64 n), .bool true]) (by simp [results, Tryd.results30, go_sem]) rfl ⟨HB4.out, .inl ⟨HGD.out.2 rfl, _, rfl, HTH.out _⟩⟩
set_option maxHeartbeats 1000000 in
theorem over_text_s (S : Nat → Prop) (n : Int) (t : ByteArray) (ad : Option Addr) (N cap : Nat) (ks : List Tr) (w : World) (hs : t.size ≤ 1000) (hN : ks.length = N) (ht : t.size ≤ maxLen) :
    Calls Tryd.prog 30 #[.agg #[.int .i64 4, .int .i64 n, .string t, .int .i64 N], .slice ad N cap] w fun e w' => Below w.heap.size w w' ∧ OverEnd S w' e (.node 4 n t ks) := by
  have HTX := hid ht
  clear ht
  have eqa := eqBin 4 (0) (0) 4 n N (t) t
  obtain ⟨T, x, f, rv, hv, m1, m2, m3⟩ := aText t 
  cases hv
  have M3 := hid m3
  have HGD : Hid (Good (.node 4 n t ks) ↔ eqB 4 (0) (t) (0) 4 n t N = true) := by
    rw [eqB_iff]
    constructor
    · intro h
      have hl := (good_node.1 h).1
      unfold LocOk at hl
      have h0 : ks = [] → N = 0 := fun h => by rw [← hN, h]; rfl
      grind
    · rintro ⟨_, e1, e2, e3⟩
      have hk0 : ks = [] := List.length_eq_zero_iff.1 (by omega)
      subst hk0
      refine good_leaf ?_
      unfold LocOk
      grind
  have HTH : Hid (∀ W, IsTh S W (.node 4 n t ks) (.iface 65 (.string t))) := fun W => by simp [IsTh]
  clear m3 hN
  generalize hB : eqB 4 (0) (t) (0) 4 n t N = B at *
  clear hB
  go_enter Tryd.func30, Tryd.ntmps30
  go_wp2_with (go_at_call 51; refine (textOf_any t _ HTX.out).mono ?_; rintro e w' ⟨hw, ⟨_, rfl⟩ | ⟨hno, _⟩⟩; rotate_left; exact absurd hs hno; have hw2 := hw.symm; clear hw; subst hw2)
  have q0 := fun p : Gr (w.alloc (.cells #[.int .i64 4, .int .i64 n, .string t, .int .i64 N] 51)) => (four_gr p).1
  have q1 := fun p : Gr (w.alloc (.cells #[.int .i64 4, .int .i64 n, .string t, .int .i64 N] 51)) => (four_gr p).2.1
  have q2 := fun p : Gr (w.alloc (.cells #[.int .i64 4, .int .i64 n, .string t, .int .i64 N] 51)) => (four_gr p).2.2.1
  have q3 := fun p : Gr (w.alloc (.cells #[.int .i64 4, .int .i64 n, .string t, .int .i64 N] 51)) => (four_gr p).2.2.2
  have hne : Nonempty (Gr (w.alloc (.cells #[.int .i64 4, .int .i64 n, .string t, .int .i64 N] 51))) := ⟨⟨_, Below.refl _ _⟩⟩
  refine wp_region_gr (by kernel_rfl) (by kernel_rfl) ?_
  repeat (first | go_big_quiet_step ((refine Calls.gr_of (v := .agg #[.int .i64 (4), .int .i64 (0), .string (t), .int .i64 (0)]) fun _ => ?_; exact M3.out _)) | quiet_step ((refine Calls.gr_of (v := .agg #[.int .i64 (4), .int .i64 (0), .string (t), .int .i64 (0)]) fun _ => ?_; exact M3.out _)))
  refine wpQuiet_nil ?_
  intro _ hw'
  obtain ⟨pw, rfl⟩ := hw'
  have HB4 := hid (gBox _ _ pw)
  clear q0 q1 q2 q3
  go_wp2
  cases B
  · exact bodyPost_ret (v := .tuple #[.iface 65 (.string t), .bool false]) (by simp [results, Tryd.results30, go_sem]) rfl ⟨HB4.out, .inr ⟨(fun h => by have := HGD.out.1 h; cases this), _, rfl⟩⟩
  · exact bodyPost_ret (v := .tuple #[.iface 65 (.string t), .bool true]) (by simp [results, Tryd.results30, go_sem]) rfl ⟨HB4.out, .inl ⟨HGD.out.2 rfl, _, rfl, HTH.out _⟩⟩
set_option maxHeartbeats 1000000 in
theorem over_text_l (S : Nat → Prop) (n : Int) (t : ByteArray) (ad : Option Addr) (N cap : Nat) (ks : List Tr) (w : World) (hs : ¬ t.size ≤ 1000) (ht : t.size ≤ maxLen) :
    Calls Tryd.prog 30 #[.agg #[.int .i64 4, .int .i64 n, .string t, .int .i64 N], .slice ad N cap] w fun e w' => Below w.heap.size w w' ∧ OverEnd S w' e (.node 4 n t ks) := by
  have HTX := hid ht
  clear ht
  have HNG : Hid (¬ Good (.node 4 n t ks)) := fun h => by
    have hl := (good_node.1 h).1
    unfold LocOk at hl
    grind
  have hlg : ((⟨#[108, 97, 114, 103, 101]⟩ : ByteArray).toList == (⟨#[]⟩ : ByteArray).toList) = false := by rw [Lib.toList_data, Lib.toList_data]; rfl
  go_enter Tryd.func30, Tryd.ntmps30
  go_wp2_with (go_at_call 51; refine (textOf_any t _ HTX.out).mono ?_; rintro e w' ⟨hw, ⟨hno, _⟩ | ⟨_, rfl⟩⟩; exact absurd hno hs; have hw2 := hw.symm; clear hw; subst hw2)
  have hne : Nonempty (Gr (w.alloc (.cells #[.int .i64 4, .int .i64 n, .string t, .int .i64 N] 51))) := ⟨⟨_, Below.refl _ _⟩⟩
  refine wp_region_gr (by kernel_rfl) (by kernel_rfl) ?_
  repeat (first | go_big_quiet_step (fail) | quiet_step (fail))
  refine wpQuiet_nil ?_
  intro _ hw'
  obtain ⟨pw, rfl⟩ := hw'
  have HB4 := hid (gBox _ _ pw)
  go_wp2
  exact bodyPost_ret (v := .tuple #[.nilIface, .bool false]) (by simp [results, Tryd.results30, go_sem]) rfl ⟨HB4.out, .inr ⟨HNG.out, _, rfl⟩⟩
set_option maxHeartbeats 1000000 in
theorem over_other (S : Nat → Prop) (k n : Int) (t : ByteArray) (ad : Option Addr) (N cap : Nat) (ks : List Tr) (w : World) (hk : k < 1 ∨ 6 < k) :
    Calls Tryd.prog 30 #[.agg #[.int .i64 k, .int .i64 n, .string t, .int .i64 N], .slice ad N cap] w fun e w' => Below w.heap.size w w' ∧ OverEnd S w' e (.node k n t ks) := by
  have HNG : Hid (¬ Good (.node k n t ks)) := fun h => by
    have hl := (good_node.1 h).1
    unfold LocOk at hl
    omega
  have k1 : (k == 1) = false := by simp; omega
  have k2 : (k == 2) = false := by simp; omega
  have k3 : (k == 3) = false := by simp; omega
  have k4 : (k == 4) = false := by simp; omega
  have k5 : (k == 5) = false := by simp; omega
  have k6 : (k == 6) = false := by simp; omega
  go_enter Tryd.func30, Tryd.ntmps30
  go_wp2
  exact bodyPost_ret (v := .tuple #[.nilIface, .bool false]) (by simp [results, Tryd.results30, go_sem]) rfl ⟨(Below.refl _ _).alloc (Nat.le_refl _) _, .inr ⟨HNG.out, _, rfl⟩⟩
end Go.Proofs.YtfookokepnnmoaaDoor
