import Derived.Lib.ItoaNum
import Derived.Test.YtkngjbpbjjoneaaGreatDoorJ03
import Derived.Test.YtkngjbpbjjoneaaGreatDoorJ05
import Derived.Test.YtkngjbpbjjoneaaGreatDoorJ04
/-! The model's l10NameOk, l10Integer, l10BuiltWord. -/
namespace Go.Proofs.YtkngjbpbjjoneaaGreatDoor.Q
open Go.RowKit Go.Shelf
set_option maxRecDepth 20000
set_option maxHeartbeats 400000 in
theorem l10Integer_int (t : Int) (w : World) :
    Calls Tryz.prog 40 #[.int .i64 t] w fun e w' => e = .returned (.bool (decide (3 ≤ t) && decide (t ≤ 10))) ∧ w' = w := by
  go_enter Tryz.func40, Tryz.ntmps40
  go_wp2
  all_goals go_ret
  all_goals exact ⟨ret_bool (by rw [Bool.eq_iff_iff]; simp; try omega), rfl⟩
set_option maxHeartbeats 1000000 in
theorem l10BuiltWord_kids (t : Int) (h1 : 1 ≤ t) (h2 : t ≤ 12) (w : World) :
    Calls Tryz.prog 44 #[.int .i64 t] w fun e w' => (∃ s, e = .returned (.tuple #[.string s, .int .i64 (builtKids t)])) ∧ w' = w := by
  obtain rfl | rfl | rfl | rfl | rfl | rfl | rfl | rfl | rfl | rfl | rfl | rfl : t = 1 ∨ t = 2 ∨ t = 3 ∨ t = 4 ∨ t = 5 ∨ t = 6 ∨ t = 7 ∨ t = 8 ∨ t = 9 ∨ t = 10 ∨ t = 11 ∨ t = 12 := by omega
  all_goals go_enter Tryz.func44, Tryz.ntmps44
  all_goals go_wp2
  all_goals go_ret2
  all_goals exact ⟨⟨_, rfl⟩, rfl⟩
set_option maxHeartbeats 1000000 in
theorem l10NameOk_any (s : ByteArray) (w : World) (hs : s.size ≤ maxLen) :
    Calls Tryz.prog 39 #[.string s] w fun e w' => Says e (NameOk s) ∧ Below w.heap.size w w' := by
  unfold maxLen at hs
  by_cases h1 : 1 ≤ s.size
  · by_cases h2 : s.size ≤ 30
    · have h0 : 0 < s.size := h1
      cases hb : mlt (s[0].toNat : Int)
      · have HE : Hid (¬ NameOk s) := fun ⟨_, _, h, _⟩ => by unfold mltB at h; rw [hb] at h; cases h
        go_enter Tryz.func39, Tryz.ntmps39
        go_wp2_with (go_at_call 60; refine (l10Letter_any _ _).mono ?_; rintro e w' ⟨rfl, rfl⟩)
        go_ret
        exact ⟨says_f HE.out, Below.refl _ _⟩
      · by_cases hw : s.data.toList ∈ mws
        · have HE : Hid (¬ NameOk s) := fun ⟨_, _, _, h, _⟩ => h hw
          have HW : Hid (decide (s.data.toList ∈ mws) = true) := by show _ = _; simp [hw]
          clear hw
          go_enter Tryz.func39, Tryz.ntmps39
          go_wp2_with (first
            | (go_at_call 60; refine (l10Letter_any _ _).mono ?_; rintro e w' ⟨rfl, hw⟩; have hw2 := hw.symm; clear hw; subst hw2)
            | (go_at_call 61; refine (l10Taken_any s _).mono ?_; rintro e w1 ⟨rfl, hb1⟩; have HB1 := hid hb1; clear hb1; rw [HW.out]))
          go_ret
          exact ⟨says_f HE.out, HB1.out⟩
        · have HNW := hid hw
          have HW : Hid (decide (s.data.toList ∈ mws) = false) := by show _ = _; simp [hw]
          clear hw
          go_enter Tryz.func39, Tryz.ntmps39
          go_wp2_with (first
            | (go_at_call 60; refine (l10Letter_any _ _).mono ?_; rintro e w' ⟨rfl, hw⟩; have hw2 := hw.symm; clear hw; subst hw2)
            | (go_at_call 61; refine (l10Taken_any s _).mono ?_; rintro e w1 ⟨rfl, hb1⟩; have HB1 := hid hb1; clear hb1; rw [HW.out]))
          go_loop [3] (fun i => ∃ k : Nat, k ≤ s.size ∧ i = .int .i64 k ∧ ∀ j (h : j < s.size), j < k → letB s[j] = true) (fun i => s.size - (intOf i).toNat)
          case atStart => exact ⟨0, Nat.zero_le _, rfl, fun j h h0 => absurd h0 (Nat.not_lt_zero _)⟩
          case round =>
            obtain ⟨k, hk, rfl, hr⟩ := hrel
            have HR := hid hr
            clear hr
            by_cases hlt : k < s.size
            · cases hp : let_ (s[k].toNat : Int)
              · have HE : Hid (¬ NameOk s) := fun ⟨_, _, _, _, h⟩ => by have := h k hlt; unfold letB at this; rw [hp] at this; cases this
                go_wp2_with (go_at_call 62; refine (l10Tail_any _ _).mono ?_; rintro e w' ⟨rfl, hw⟩; have hw2 := hw.symm; clear hw; subst hw2)
                go_ret
                exact ⟨says_f HE.out, HB1.out⟩
              · have NX : Hid (∀ j (h : j < s.size), j < k + 1 → letB s[j] = true) := fun j h hj => by
                  rcases Nat.lt_or_eq_of_le (Nat.lt_succ_iff.1 hj) with h' | h'
                  · exact HR.out j h h'
                  · subst h'; exact hp
                go_wp2_with (go_at_call 62; refine (l10Tail_any _ _).mono ?_; rintro e w' ⟨rfl, hw⟩; have hw2 := hw.symm; clear hw; subst hw2)
                go_round
                case rel => exact ⟨k + 1, by omega, by go_num, NX.out⟩
                case measure => simp [intOf]; omega
            · go_wp2
              go_ret
              exact ⟨says_t ⟨h0, h2, hb, HNW.out, fun i h => HR.out i h (by omega)⟩, HB1.out⟩
    · have HE : Hid (¬ NameOk s) := fun ⟨_, h, _⟩ => h2 h
      go_enter Tryz.func39, Tryz.ntmps39
      go_wp2
      go_ret
      exact ⟨says_f HE.out, Below.refl _ _⟩
  · have HE : Hid (¬ NameOk s) := fun ⟨h, _⟩ => by omega
    go_enter Tryz.func39, Tryz.ntmps39
    go_wp2
    go_ret
    exact ⟨says_f HE.out, Below.refl _ _⟩
end Go.Proofs.YtkngjbpbjjoneaaGreatDoor.Q
/-! The text of a tree: plain mathematics. Printed by gen_rplain.py. -/
namespace Go.Proofs.YtkngjbpbjjoneaaGreatDoor.Q
def hexd (n : Nat) : UInt8 := if n < 10 then UInt8.ofNat (48 + n) else UInt8.ofNat (87 + n)
def quoteB (b : UInt8) : List UInt8 := if 32 ≤ b.toNat ∧ b.toNat ≤ 126 ∧ b.toNat ≠ 34 ∧ b.toNat ≠ 92 then [b] else [92, hexd (b.toNat / 16), hexd (b.toNat % 16)]
def quoteL (t : List UInt8) : List UInt8 := 34 :: (t.flatMap quoteB ++ [34])
theorem quoteB_len (b : UInt8) : (quoteB b).length ≤ 3 := by unfold quoteB; split <;> simp
theorem quoteL_len (t : List UInt8) : (quoteL t).length ≤ 3 * t.length + 2 := by
  have : (t.flatMap quoteB).length ≤ 3 * t.length := by
    induction t with
    | nil => simp
    | cons a t ih => have := quoteB_len a; simp only [List.flatMap_cons, List.length_append, List.length_cons]; omega
  simp only [quoteL, List.length_cons, List.length_append, List.length_nil]; omega
/-- The marks of two, of one; the built words; the types' words. -/
def marks2 : List (List UInt8) := [ [124, 124], [38, 38], [61, 61], [33, 61], [60], [60, 61], [62], [62, 61], [43], [45], [124], [94], [42], [47], [37], [38], [60, 60], [62, 62] ]
def mkB (op : Int) : List UInt8 := marks2.getD (op.toNat - 1) []
def unB (op : Int) : List UInt8 := if op = 1 then [45] else if op = 2 then [33] else [126]
def bwB (op : Int) : List UInt8 := bws.getD (op.toNat - 1) []
def twB (t : Int) : List UInt8 := tw (t.toNat - 1)
theorem mkB_len (op : Int) : (mkB op).length ≤ 2 := by
  have : ∀ i, (marks2.getD i []).length ≤ 2 := fun i => by
    by_cases h : i < 18
    · have : ∀ i : Fin 18, (marks2.getD i.val []).length ≤ 2 := by decide
      exact this ⟨i, h⟩
    · rw [List.getD_eq_getElem?_getD, List.getElem?_eq_none (by simp [marks2]; omega)]; simp
  exact this _
theorem bwB_len (op : Int) : (bwB op).length ≤ 4 := by
  have : ∀ i, (bws.getD i []).length ≤ 4 := fun i => by
    by_cases h : i < 12
    · have : ∀ i : Fin 12, (bws.getD i.val []).length ≤ 4 := by decide
      exact this ⟨i, h⟩
    · rw [List.getD_eq_getElem?_getD, List.getElem?_eq_none (by simp [bws]; omega)]; simp
  exact this _
theorem twB_len (t : Int) : (twB t).length ≤ 4 := by
  have : ∀ i, (tws.getD i []).length ≤ 4 := fun i => by
    by_cases h : i < 10
    · have : ∀ i : Fin 10, (tws.getD i.val []).length ≤ 4 := by decide
      exact this ⟨i, h⟩
    · rw [List.getD_eq_getElem?_getD, List.getElem?_eq_none (by simp [tws]; omega)]; simp
  exact this _
theorem unB_len (op : Int) : (unB op).length = 1 := by unfold unB; split <;> (try split) <;> rfl
theorem decDigits_len (u : Nat) (h : u < 18446744073709551616) : (Lib.decDigits u).length ≤ 20 := by
  rw [Lib.decDigits_length]
  by_cases h0 : u = 0
  · subst h0; rw [Lib.nDigits_small (by decide)]; decide
  · have := Lib.numDigits_eq u (by omega) h
    split at this <;> omega
/-! The text of an E. -/
def heldOf (nd : Nat → Nd) (tv : Nat → List UInt8) (k : Nat) : List UInt8 := if (nd k).kind = 6 then [40] ++ tv k ++ [41] else tv k
def joinOf (tv : Nat → List UInt8) : List Nat → List UInt8
  | [] => []
  | k :: r => tv k ++ r.flatMap fun j => [44, 32] ++ tv j
theorem joinOf_snoc (tv : Nat → List UInt8) (ks : List Nat) (k : Nat) : joinOf tv (ks ++ [k]) = if ks = [] then tv k else joinOf tv ks ++ [44, 32] ++ tv k := by
  cases ks with
  | nil => simp [joinOf]
  | cons a r => simp [joinOf, List.flatMap_append]
theorem joinOf_congr {tv tu : Nat → List UInt8} {ks : List Nat} (h : ∀ k ∈ ks, tv k = tu k) : joinOf tv ks = joinOf tu ks := by
  cases ks with
  | nil => rfl
  | cons a r =>
    simp only [joinOf]
    rw [h a (by simp)]
    congr 1
    have : ∀ r : List Nat, (∀ k ∈ r, tv k = tu k) → (r.flatMap fun j => [44, 32] ++ tv j) = r.flatMap fun j => [44, 32] ++ tu j := fun r hr => by
      induction r with
      | nil => rfl
      | cons b r ih => simp only [List.flatMap_cons]; rw [hr b (by simp), ih (fun k hk => hr k (by simp [hk]))]
    exact this r fun k hk => h k (by simp [hk])
def eOf (nd : Nat → Nd) (x : Nd) (ks : List Nat) (tv : Nat → List UInt8) : List UInt8 :=
  if x.kind = 1 then Lib.decDigits (IntKind.u64.wrap x.n).toNat ++ (if x.ty = 10 then [] else twB x.ty)
  else if x.kind = 2 then quoteL x.text.data.toList
  else if x.kind = 3 then (if x.n = 1 then [116, 114, 117, 101] else [102, 97, 108, 115, 101])
  else if x.kind = 4 then x.text.data.toList
  else if x.kind = 5 then unB x.op ++ ks.flatMap (heldOf nd tv)
  else if x.kind = 6 then (ks.take 1).flatMap (heldOf nd tv) ++ [32] ++ mkB x.op ++ [32] ++ (ks.drop 1).flatMap (heldOf nd tv)
  else if x.kind = 7 then x.text.data.toList ++ [40] ++ joinOf tv ks ++ [41]
  else if x.kind = 8 then bwB x.op ++ [40] ++ joinOf tv ks ++ [41]
  else twB x.ty ++ [40] ++ joinOf tv ks ++ [41]
theorem held_congr {nd : Nat → Nd} {tv tu : Nat → List UInt8} {k : Nat} (h : tv k = tu k) : heldOf nd tv k = heldOf nd tu k := by unfold heldOf; rw [h]
theorem flat_congr {f g : Nat → List UInt8} {ks : List Nat} (h : ∀ k ∈ ks, f k = g k) : ks.flatMap f = ks.flatMap g := by
  induction ks with
  | nil => rfl
  | cons a r ih => simp only [List.flatMap_cons]; rw [h a (by simp), ih (fun k hk => h k (by simp [hk]))]
theorem eOf_congr {nd : Nat → Nd} {x : Nd} {ks : List Nat} {tv tu : Nat → List UInt8} (h : ∀ k ∈ ks, tv k = tu k) : eOf nd x ks tv = eOf nd x ks tu := by
  unfold eOf
  rw [joinOf_congr h, flat_congr (fun k hk => held_congr (h k hk)), flat_congr (ks := ks.take 1) (fun k hk => held_congr (h k (List.mem_of_mem_take hk))), flat_congr (ks := ks.drop 1) (fun k hk => held_congr (h k (List.mem_of_mem_drop hk)))]
def eT (nd : Nat → Nd) (O : List (List Nat)) : Nat → Nat → List UInt8
  | 0, _ => []
  | f + 1, k => eOf nd (nd k) (O.getD k []) (eT nd O f)
def tvE (nd : Nat → Nd) (O : List (List Nat)) (k : Nat) : List UInt8 := eT nd O (k + 1) k
/-- Kids come ahead of their node. -/
def Down (O : List (List Nat)) : Prop := ∀ j, ∀ y ∈ O.getD j [], y < j
theorem eT_mono {nd : Nat → Nd} {O : List (List Nat)} (hO : Down O) : ∀ j f, j < f → eT nd O f j = tvE nd O j := by
  intro j
  induction j using Nat.strongRecOn with
  | _ j ih =>
    intro f hf
    obtain ⟨f, rfl⟩ : ∃ g, f = g + 1 := ⟨f - 1, by omega⟩
    unfold tvE
    simp only [eT]
    refine eOf_congr fun k hk => ?_
    have hkj := hO j k hk
    rw [ih k hkj f (by omega), ih k hkj j hkj]
theorem tvE_eq {nd : Nat → Nd} {O : List (List Nat)} (hO : Down O) (j : Nat) : tvE nd O j = eOf nd (nd j) (O.getD j []) (tvE nd O) := by
  show eT nd O (j + 1) j = _
  simp only [eT]
  exact eOf_congr fun k hk => eT_mono hO k j (hO j k hk)
/-! How many nodes lie below one. -/
def szs (o : List (List Nat)) : List Nat := o.foldl (fun ss ks => ss ++ [1 + (ks.map fun k => ss.getD k 0).sum]) []
theorem szs_snoc (o : List (List Nat)) (ks : List Nat) : szs (o ++ [ks]) = szs o ++ [1 + (ks.map fun k => (szs o).getD k 0).sum] := by simp [szs]
theorem szs_length (o : List (List Nat)) : (szs o).length = o.length := by
  have : ∀ n, ∀ o : List (List Nat), o.length = n → (szs o).length = o.length := by
    intro n
    induction n with
    | zero => intro o h; rw [List.length_eq_zero_iff.1 h]; rfl
    | succ n ih =>
      intro o h
      obtain ⟨o', ks, rfl⟩ := (List.eq_nil_or_concat o).resolve_left (by rintro rfl; cases h)
      rw [List.concat_eq_append] at h ⊢
      rw [szs_snoc, List.length_append, List.length_append, ih o' (by simp at h; exact h)]
      rfl
  exact this _ o rfl
theorem sum_grow (ss : List Nat) (x : Nat) (ks : List Nat) (h : ∀ k ∈ ks, k < ss.length) : (ks.map fun k => (ss ++ [x]).getD k 0) = ks.map fun k => ss.getD k 0 := by
  apply List.map_congr_left
  intro k hk
  rw [List.getD_eq_getElem?_getD, List.getD_eq_getElem?_getD, List.getElem?_append_left (h k hk)]
theorem szs_stack {nd : Nat → Nd} : ∀ (j : Nat) (o : List (List Nat)) (s : List Nat), kidsF nd j = some (o, s) → (s.map fun k => (szs o).getD k 0).sum = j := by
  intro j
  induction j with
  | zero => intro o s h; simp [kidsF] at h; obtain ⟨rfl, rfl⟩ := h; rfl
  | succ j ih =>
    intro o s h
    obtain ⟨o', sp, sk, h1, rfl, rfl, _⟩ := kidsF_step h
    have hl := kidsF_len nd _ _ _ h1
    have hi := ih _ _ h1
    rw [List.map_append, List.sum_append] at hi
    have hlen : (szs o').length = j := by rw [szs_length]; exact hl.1
    rw [szs_snoc, List.map_append, List.sum_append, sum_grow _ _ sp (fun k hk => by rw [hlen]; exact hl.2.2 k (by simp [hk]))]
    have : (szs o' ++ [1 + (sk.map fun k => (szs o').getD k 0).sum]).getD j 0 = 1 + (sk.map fun k => (szs o').getD k 0).sum := by
      rw [List.getD_eq_getElem?_getD, List.getElem?_append_right (by omega), hlen]; simp
    simp only [List.map_cons, List.map_nil, List.sum_cons, List.sum_nil]
    rw [this]; omega
theorem szs_take {nd : Nat → Nd} {N : Nat} {O : List (List Nat)} {s : List Nat} (h : kidsF nd N = some (O, s)) : ∀ j, j < N → (szs O).getD j 0 = 1 + ((O.getD j []).map fun k => (szs O).getD k 0).sum ∧ (szs O).getD j 0 ≤ j + 1 := by
  have pre : ∀ d, ∀ j, j + d = O.length → ∀ i, i < j → (szs (O.take j)).getD i 0 = (szs O).getD i 0 := by
    intro d
    induction d with
    | zero => intro j hj i _; rw [List.take_of_length_le (by omega)]
    | succ d ih =>
      intro j hj i hi
      rw [← ih (j + 1) (by omega) i (by omega), List.take_succ_eq_append_getElem (by omega), szs_snoc]
      rw [List.getD_eq_getElem?_getD, List.getD_eq_getElem?_getD, List.getElem?_append_left (by rw [szs_length, List.length_take]; omega)]
  intro j hj
  have hl := (kidsF_len nd _ _ _ h).1
  obtain ⟨s', h6⟩ := kidsF_pre h (j + 1) (by omega)
  obtain ⟨o', sp, sk, h1, h2, h3, _⟩ := kidsF_step h6
  have hl' := kidsF_len nd _ _ _ h1
  have ho' : o' = O.take j := by
    have := congrArg (List.take j) h2
    have e2 : (o' ++ [sk]).take j = o' := by rw [List.take_append_of_le_length (by omega), List.take_of_length_le (by omega)]
    rw [List.take_take, Nat.min_eq_left (by omega), e2] at this
    exact this.symm
  have e : O.getD j [] = sk := by
    have : (O.take (j + 1))[j]? = (o' ++ [sk])[j]? := by rw [h2]
    rw [List.getElem?_take_of_lt (by omega), List.getElem?_append_right (by omega), hl'.1] at this
    rw [List.getD_eq_getElem?_getD, this]; simp
  have hlen : (szs o').length = j := by rw [szs_length]; exact hl'.1
  have hval : (szs O).getD j 0 = 1 + (sk.map fun k => (szs o').getD k 0).sum := by
    rw [← pre (O.length - (j + 1)) (j + 1) (by omega) j (by omega), h2, szs_snoc, List.getD_eq_getElem?_getD, List.getElem?_append_right (by omega), hlen]; simp
  have hmap : (sk.map fun k => (szs o').getD k 0) = sk.map fun k => (szs O).getD k 0 := by
    apply List.map_congr_left
    intro k hk
    have hkj : k < j := hl'.2.2 k (by simp [hk])
    rw [ho', pre (O.length - j) j (by omega) k hkj]
  refine ⟨by rw [hval, hmap, e], ?_⟩
  have hst := szs_stack j o' (sp ++ sk) h1
  rw [List.map_append, List.sum_append] at hst
  rw [hval]; omega
theorem kids_down {nd : Nat → Nd} {N : Nat} {O : List (List Nat)} {s : List Nat} (h : kidsF nd N = some (O, s)) : Down O := fun j y hy => by
  by_cases hj : j < N
  · exact kids_lt h j hj y hy
  · have hl := (kidsF_len nd _ _ _ h).1
    rw [List.getD_eq_getElem?_getD, List.getElem?_eq_none (by omega)] at hy
    simp at hy
/-! How long texts are. -/
theorem join_len (tv : Nat → List UInt8) (z : Nat → Nat) (ks : List Nat) (h : ∀ k ∈ ks, (tv k).length + 10 ≤ 9100 * z k) : (joinOf tv ks).length ≤ 9100 * (ks.map z).sum := by
  cases ks with
  | nil => simp [joinOf]
  | cons a r =>
    have : ∀ r : List Nat, (∀ k ∈ r, (tv k).length + 10 ≤ 9100 * z k) → (r.flatMap fun j => [44, 32] ++ tv j).length ≤ 9100 * (r.map z).sum := fun r hr => by
      induction r with
      | nil => simp
      | cons b r ih =>
        have h1 := hr b (by simp)
        have h2 := ih (fun k hk => hr k (by simp [hk]))
        simp only [List.flatMap_cons, List.length_append, List.length_cons, List.length_nil, List.map_cons, List.sum_cons] at h2 ⊢
        omega
    have h1 := h a (by simp)
    have h2 := this r fun k hk => h k (by simp [hk])
    simp only [joinOf, List.length_append, List.map_cons, List.sum_cons]
    omega
theorem held_len (nd : Nat → Nd) (tv : Nat → List UInt8) (k : Nat) : (heldOf nd tv k).length ≤ (tv k).length + 2 := by unfold heldOf; split <;> simp
theorem helds_len (nd : Nat → Nd) (tv : Nat → List UInt8) (z : Nat → Nat) (ks : List Nat) (h : ∀ k ∈ ks, (tv k).length + 10 ≤ 9100 * z k) : (ks.flatMap (heldOf nd tv)).length ≤ 9100 * (ks.map z).sum := by
  induction ks with
  | nil => simp
  | cons a r ih =>
    have h1 := h a (by simp)
    have h2 := ih (fun k hk => h k (by simp [hk]))
    have h3 := held_len nd tv a
    simp only [List.flatMap_cons, List.length_append, List.map_cons, List.sum_cons]
    omega
theorem eOf_len (nd : Nat → Nd) (x : Nd) (ks : List Nat) (tv : Nat → List UInt8) (z : Nat → Nat) (ht : x.text.size ≤ 3000) (h : ∀ k ∈ ks, (tv k).length + 10 ≤ 9100 * z k) : (eOf nd x ks tv).length + 10 ≤ 9100 * (1 + (ks.map z).sum) := by
  have hx : x.text.data.toList.length ≤ 3000 := by simpa using ht
  have h1 := join_len tv z ks h
  have h2 := helds_len nd tv z ks h
  have h3 := helds_len nd tv z (ks.take 1) (fun k hk => h k (List.mem_of_mem_take hk))
  have h4 := helds_len nd tv z (ks.drop 1) (fun k hk => h k (List.mem_of_mem_drop hk))
  have h5 : ((ks.take 1).map z).sum + ((ks.drop 1).map z).sum = (ks.map z).sum := by rw [← List.sum_append, ← List.map_append, List.take_append_drop]
  have h6 := quoteL_len x.text.data.toList
  have h7 := unB_len x.op
  have h8 := mkB_len x.op
  have h9 := bwB_len x.op
  have h10 := twB_len x.ty
  have h11 := decDigits_len (IntKind.u64.wrap x.n).toNat (by have := IntKind.wrap_u64 x.n; omega)
  unfold eOf
  (repeat' split) <;> (try simp only [List.length_append, List.length_cons, List.length_nil]) <;> omega
theorem tvE_len {nd : Nat → Nd} {N : Nat} {O : List (List Nat)} {s : List Nat} (h : kidsF nd N = some (O, s)) (ht : ∀ j, j < N → (nd j).text.size ≤ 3000) : ∀ j, j < N → (tvE nd O j).length + 10 ≤ 9100 * (szs O).getD j 0 := by
  have hO := kids_down h
  intro j
  induction j using Nat.strongRecOn with
  | _ j ih =>
    intro hj
    rw [tvE_eq hO, (szs_take h j hj).1]
    exact eOf_len nd (nd j) _ _ _ (ht j hj) fun k hk => ih k (hO j k hk) (by have := hO j k hk; omega)
end Go.Proofs.YtkngjbpbjjoneaaGreatDoor.Q
/-! The parts that stand for the nodes of a tree. Printed by gen_wpart.py. -/
namespace Go.Proofs.YtkngjbpbjjoneaaGreatDoor.Q
open Go.RowKit Go.Shelf
set_option maxRecDepth 20000
theorem lt_blk {w : World} {b : Nat} {o : Obj} (h : w.heap[b]? = some o) : b < w.heap.size := (Array.getElem?_eq_some_iff.1 h).1
/-- A row of parts at ad, that no writing reaches. -/
def RowP (S : Nat → Prop) (W : World) (ad : Option Addr) (xs : List Value) : Prop := xs = [] ∨ ∃ g, ad = some ⟨g, 0, none⟩ ∧ S g ∧ (∃ cs fr, W.heap[g]? = some (Obj.cells cs 55 fr)) ∧ ∀ i u, xs[i]? = some u → W.cell? ⟨g, i, none⟩ = some u
/-- v is the part of a node x with kids ks, whose parts are pv. -/
def PartAt (S : Nat → Prop) (W : World) (x : Nd) (ks : List Nat) (pv : Nat → Value) (v : Value) : Prop :=
  (x.kind = 1 ∧ v = .iface 139 (.agg #[.int .i64 x.ty, .int .i64 x.n])) ∨
  (x.kind = 2 ∧ v = .iface 141 (.agg #[.string x.text])) ∨
  (x.kind = 3 ∧ v = .iface 143 (.agg #[.int .i64 x.n])) ∨
  (x.kind = 4 ∧ v = .iface 145 (.agg #[.string x.text])) ∨
  (x.kind = 5 ∧ v = .iface 147 (.agg #[.int .i64 x.op, pv (ks.getD 0 0)])) ∨
  (x.kind = 6 ∧ v = .iface 149 (.agg #[.int .i64 x.op, pv (ks.getD 0 0), pv (ks.getD 1 0)])) ∨
  (x.kind = 7 ∧ ∃ ad cap, v = .iface 151 (.agg #[.string x.text, .slice ad ks.length cap]) ∧ RowP S W ad (ks.map pv)) ∨
  (x.kind = 8 ∧ ∃ ad cap, v = .iface 153 (.agg #[.int .i64 x.op, .slice ad ks.length cap]) ∧ RowP S W ad (ks.map pv)) ∨
  (x.kind = 9 ∧ v = .iface 155 (.agg #[.int .i64 x.ty, pv (ks.getD 0 0)])) ∨
  (x.kind = 10 ∧ v = .iface 119 (.agg #[.string x.text, pv (ks.getD 0 0)])) ∨
  (x.kind = 11 ∧ v = .iface 121 (.agg #[.string x.text, pv (ks.getD 0 0)])) ∨
  (x.kind = 12 ∧ v = .iface 123 (.agg #[pv (ks.getD 0 0), pv (ks.getD 1 0), if ks.length = 2 then .nilIface else pv (ks.getD 2 0)])) ∨
  (x.kind = 13 ∧ v = .iface 125 (.agg #[pv (ks.getD 0 0), pv (ks.getD 1 0)])) ∨
  (x.kind = 14 ∧ v = .iface 127 (.agg #[])) ∨
  (x.kind = 15 ∧ v = .iface 128 (.agg #[])) ∨
  (x.kind = 16 ∧ v = .iface 130 (.agg #[if ks.length = 0 then .nilIface else pv (ks.getD 0 0)])) ∨
  (x.kind = 17 ∧ v = .iface 132 (.agg #[pv (ks.getD 0 0)])) ∨
  (x.kind = 18 ∧ v = .iface 134 (.agg #[pv (ks.getD 0 0), pv (ks.getD 1 0)])) ∨
  (x.kind = 19 ∧ v = .iface 135 (.agg #[pv (ks.getD 0 0)])) ∨
  (x.kind = 20 ∧ v = .iface 137 (.agg #[pv (ks.getD 0 0)])) ∨
  (x.kind = 21 ∧ ∃ ad cap, v = .iface 89 (.agg #[.slice ad ks.length cap]) ∧ RowP S W ad (ks.map pv)) ∨
  (x.kind = 22 ∧ v = .iface 87 (.agg #[.string x.text, .int .i64 x.ty])) ∨
  (x.kind = 23 ∧ ∃ ad cap, v = .iface 81 (.agg #[.string x.text, .int .i64 x.ty, .slice ad (ks.length - 1) cap, pv (ks.getD (ks.length - 1) 0)]) ∧ RowP S W ad (ks.map pv)) ∨
  (x.kind = 24 ∧ ∃ ad cap, v = .iface 78 (.agg #[.slice ad ks.length cap]) ∧ RowP S W ad (ks.map pv))
theorem RowP.keep {S S' : Nat → Prop} {W W' : World} {ad : Option Addr} {xs : List Value} (h : RowP S W ad xs) (hk : ∀ (g : Nat) (cs : Array Value) (fr : Nat × Nat), S g → W.heap[g]? = some (Obj.cells cs 55 fr) → S' g ∧ W'.heap[g]? = W.heap[g]?) : RowP S' W' ad xs := by
  rcases h with h | ⟨g, h1, hS, ⟨cs, fr, h2⟩, h3⟩
  · exact .inl h
  · obtain ⟨hS', e⟩ := hk g cs fr hS h2
    refine .inr ⟨g, h1, hS', ⟨cs, fr, e.trans h2⟩, fun i u hi => ?_⟩
    rw [← h3 i u hi]
    exact World.cell?_of_block (w := W) e
theorem RowP.below {S : Nat → Prop} {W W' : World} {ad : Option Addr} {xs : List Value} (h : RowP S W ad xs) (hb : Below W.heap.size W W') : RowP S W' ad xs := h.keep fun g _ _ hS hg => ⟨hS, hb.block g (lt_blk hg)⟩
theorem PartAt.keep {S S' : Nat → Prop} {W W' : World} {x : Nd} {ks : List Nat} {pv : Nat → Value} {v : Value} (h : PartAt S W x ks pv v) (hr : ∀ ad xs, RowP S W ad xs → RowP S' W' ad xs) : PartAt S' W' x ks pv v := by
  unfold PartAt at h ⊢
  rcases h with h | h | h | h | h | h | ⟨h, ad, cap, h1, h2⟩ | ⟨h, ad, cap, h1, h2⟩ | h | h | h | h | h | h | h | h | h | h | h | h | ⟨h, ad, cap, h1, h2⟩ | h | ⟨h, ad, cap, h1, h2⟩ | ⟨h, ad, cap, h1, h2⟩
  · exact .inl (h)
  · exact .inr (.inl (h))
  · exact .inr (.inr (.inl (h)))
  · exact .inr (.inr (.inr (.inl (h))))
  · exact .inr (.inr (.inr (.inr (.inl (h)))))
  · exact .inr (.inr (.inr (.inr (.inr (.inl (h))))))
  · exact .inr (.inr (.inr (.inr (.inr (.inr (.inl (⟨h, ad, cap, h1, hr _ _ h2⟩)))))))
  · exact .inr (.inr (.inr (.inr (.inr (.inr (.inr (.inl (⟨h, ad, cap, h1, hr _ _ h2⟩))))))))
  · exact .inr (.inr (.inr (.inr (.inr (.inr (.inr (.inr (.inl (h)))))))))
  · exact .inr (.inr (.inr (.inr (.inr (.inr (.inr (.inr (.inr (.inl (h))))))))))
  · exact .inr (.inr (.inr (.inr (.inr (.inr (.inr (.inr (.inr (.inr (.inl (h)))))))))))
  · exact .inr (.inr (.inr (.inr (.inr (.inr (.inr (.inr (.inr (.inr (.inr (.inl (h))))))))))))
  · exact .inr (.inr (.inr (.inr (.inr (.inr (.inr (.inr (.inr (.inr (.inr (.inr (.inl (h)))))))))))))
  · exact .inr (.inr (.inr (.inr (.inr (.inr (.inr (.inr (.inr (.inr (.inr (.inr (.inr (.inl (h))))))))))))))
  · exact .inr (.inr (.inr (.inr (.inr (.inr (.inr (.inr (.inr (.inr (.inr (.inr (.inr (.inr (.inl (h)))))))))))))))
  · exact .inr (.inr (.inr (.inr (.inr (.inr (.inr (.inr (.inr (.inr (.inr (.inr (.inr (.inr (.inr (.inl (h))))))))))))))))
  · exact .inr (.inr (.inr (.inr (.inr (.inr (.inr (.inr (.inr (.inr (.inr (.inr (.inr (.inr (.inr (.inr (.inl (h)))))))))))))))))
  · exact .inr (.inr (.inr (.inr (.inr (.inr (.inr (.inr (.inr (.inr (.inr (.inr (.inr (.inr (.inr (.inr (.inr (.inl (h))))))))))))))))))
  · exact .inr (.inr (.inr (.inr (.inr (.inr (.inr (.inr (.inr (.inr (.inr (.inr (.inr (.inr (.inr (.inr (.inr (.inr (.inl (h)))))))))))))))))))
  · exact .inr (.inr (.inr (.inr (.inr (.inr (.inr (.inr (.inr (.inr (.inr (.inr (.inr (.inr (.inr (.inr (.inr (.inr (.inr (.inl (h))))))))))))))))))))
  · exact .inr (.inr (.inr (.inr (.inr (.inr (.inr (.inr (.inr (.inr (.inr (.inr (.inr (.inr (.inr (.inr (.inr (.inr (.inr (.inr (.inl (⟨h, ad, cap, h1, hr _ _ h2⟩)))))))))))))))))))))
  · exact .inr (.inr (.inr (.inr (.inr (.inr (.inr (.inr (.inr (.inr (.inr (.inr (.inr (.inr (.inr (.inr (.inr (.inr (.inr (.inr (.inr (.inl (h))))))))))))))))))))))
  · exact .inr (.inr (.inr (.inr (.inr (.inr (.inr (.inr (.inr (.inr (.inr (.inr (.inr (.inr (.inr (.inr (.inr (.inr (.inr (.inr (.inr (.inr (.inl (⟨h, ad, cap, h1, hr _ _ h2⟩)))))))))))))))))))))))
  · exact .inr (.inr (.inr (.inr (.inr (.inr (.inr (.inr (.inr (.inr (.inr (.inr (.inr (.inr (.inr (.inr (.inr (.inr (.inr (.inr (.inr (.inr (.inr (⟨h, ad, cap, h1, hr _ _ h2⟩)))))))))))))))))))))))
theorem pa_1 {S : Nat → Prop} {W : World} {op ty n kids : Int} {t : ByteArray} {ks : List Nat} {pv : Nat → Value} {v : Value} : PartAt S W ⟨1, op, ty, n, t, kids⟩ ks pv v ↔ v = .iface 139 (.agg #[.int .i64 ty, .int .i64 n]) := by simp [PartAt]
theorem pa_2 {S : Nat → Prop} {W : World} {op ty n kids : Int} {t : ByteArray} {ks : List Nat} {pv : Nat → Value} {v : Value} : PartAt S W ⟨2, op, ty, n, t, kids⟩ ks pv v ↔ v = .iface 141 (.agg #[.string t]) := by simp [PartAt]
theorem pa_3 {S : Nat → Prop} {W : World} {op ty n kids : Int} {t : ByteArray} {ks : List Nat} {pv : Nat → Value} {v : Value} : PartAt S W ⟨3, op, ty, n, t, kids⟩ ks pv v ↔ v = .iface 143 (.agg #[.int .i64 n]) := by simp [PartAt]
theorem pa_4 {S : Nat → Prop} {W : World} {op ty n kids : Int} {t : ByteArray} {ks : List Nat} {pv : Nat → Value} {v : Value} : PartAt S W ⟨4, op, ty, n, t, kids⟩ ks pv v ↔ v = .iface 145 (.agg #[.string t]) := by simp [PartAt]
theorem pa_5 {S : Nat → Prop} {W : World} {op ty n kids : Int} {t : ByteArray} {ks : List Nat} {pv : Nat → Value} {v : Value} : PartAt S W ⟨5, op, ty, n, t, kids⟩ ks pv v ↔ v = .iface 147 (.agg #[.int .i64 op, pv (ks.getD 0 0)]) := by simp [PartAt]
theorem pa_6 {S : Nat → Prop} {W : World} {op ty n kids : Int} {t : ByteArray} {ks : List Nat} {pv : Nat → Value} {v : Value} : PartAt S W ⟨6, op, ty, n, t, kids⟩ ks pv v ↔ v = .iface 149 (.agg #[.int .i64 op, pv (ks.getD 0 0), pv (ks.getD 1 0)]) := by simp [PartAt]
theorem pa_7 {S : Nat → Prop} {W : World} {op ty n kids : Int} {t : ByteArray} {ks : List Nat} {pv : Nat → Value} {v : Value} : PartAt S W ⟨7, op, ty, n, t, kids⟩ ks pv v ↔ ∃ ad cap, v = .iface 151 (.agg #[.string t, .slice ad ks.length cap]) ∧ RowP S W ad (ks.map pv) := by simp [PartAt]
theorem pa_8 {S : Nat → Prop} {W : World} {op ty n kids : Int} {t : ByteArray} {ks : List Nat} {pv : Nat → Value} {v : Value} : PartAt S W ⟨8, op, ty, n, t, kids⟩ ks pv v ↔ ∃ ad cap, v = .iface 153 (.agg #[.int .i64 op, .slice ad ks.length cap]) ∧ RowP S W ad (ks.map pv) := by simp [PartAt]
theorem pa_9 {S : Nat → Prop} {W : World} {op ty n kids : Int} {t : ByteArray} {ks : List Nat} {pv : Nat → Value} {v : Value} : PartAt S W ⟨9, op, ty, n, t, kids⟩ ks pv v ↔ v = .iface 155 (.agg #[.int .i64 ty, pv (ks.getD 0 0)]) := by simp [PartAt]
theorem pa_10 {S : Nat → Prop} {W : World} {op ty n kids : Int} {t : ByteArray} {ks : List Nat} {pv : Nat → Value} {v : Value} : PartAt S W ⟨10, op, ty, n, t, kids⟩ ks pv v ↔ v = .iface 119 (.agg #[.string t, pv (ks.getD 0 0)]) := by simp [PartAt]
theorem pa_11 {S : Nat → Prop} {W : World} {op ty n kids : Int} {t : ByteArray} {ks : List Nat} {pv : Nat → Value} {v : Value} : PartAt S W ⟨11, op, ty, n, t, kids⟩ ks pv v ↔ v = .iface 121 (.agg #[.string t, pv (ks.getD 0 0)]) := by simp [PartAt]
theorem pa_12 {S : Nat → Prop} {W : World} {op ty n kids : Int} {t : ByteArray} {ks : List Nat} {pv : Nat → Value} {v : Value} : PartAt S W ⟨12, op, ty, n, t, kids⟩ ks pv v ↔ v = .iface 123 (.agg #[pv (ks.getD 0 0), pv (ks.getD 1 0), if ks.length = 2 then .nilIface else pv (ks.getD 2 0)]) := by simp [PartAt]
theorem pa_13 {S : Nat → Prop} {W : World} {op ty n kids : Int} {t : ByteArray} {ks : List Nat} {pv : Nat → Value} {v : Value} : PartAt S W ⟨13, op, ty, n, t, kids⟩ ks pv v ↔ v = .iface 125 (.agg #[pv (ks.getD 0 0), pv (ks.getD 1 0)]) := by simp [PartAt]
theorem pa_14 {S : Nat → Prop} {W : World} {op ty n kids : Int} {t : ByteArray} {ks : List Nat} {pv : Nat → Value} {v : Value} : PartAt S W ⟨14, op, ty, n, t, kids⟩ ks pv v ↔ v = .iface 127 (.agg #[]) := by simp [PartAt]
theorem pa_15 {S : Nat → Prop} {W : World} {op ty n kids : Int} {t : ByteArray} {ks : List Nat} {pv : Nat → Value} {v : Value} : PartAt S W ⟨15, op, ty, n, t, kids⟩ ks pv v ↔ v = .iface 128 (.agg #[]) := by simp [PartAt]
theorem pa_16 {S : Nat → Prop} {W : World} {op ty n kids : Int} {t : ByteArray} {ks : List Nat} {pv : Nat → Value} {v : Value} : PartAt S W ⟨16, op, ty, n, t, kids⟩ ks pv v ↔ v = .iface 130 (.agg #[if ks.length = 0 then .nilIface else pv (ks.getD 0 0)]) := by simp [PartAt]
theorem pa_17 {S : Nat → Prop} {W : World} {op ty n kids : Int} {t : ByteArray} {ks : List Nat} {pv : Nat → Value} {v : Value} : PartAt S W ⟨17, op, ty, n, t, kids⟩ ks pv v ↔ v = .iface 132 (.agg #[pv (ks.getD 0 0)]) := by simp [PartAt]
theorem pa_18 {S : Nat → Prop} {W : World} {op ty n kids : Int} {t : ByteArray} {ks : List Nat} {pv : Nat → Value} {v : Value} : PartAt S W ⟨18, op, ty, n, t, kids⟩ ks pv v ↔ v = .iface 134 (.agg #[pv (ks.getD 0 0), pv (ks.getD 1 0)]) := by simp [PartAt]
theorem pa_19 {S : Nat → Prop} {W : World} {op ty n kids : Int} {t : ByteArray} {ks : List Nat} {pv : Nat → Value} {v : Value} : PartAt S W ⟨19, op, ty, n, t, kids⟩ ks pv v ↔ v = .iface 135 (.agg #[pv (ks.getD 0 0)]) := by simp [PartAt]
theorem pa_20 {S : Nat → Prop} {W : World} {op ty n kids : Int} {t : ByteArray} {ks : List Nat} {pv : Nat → Value} {v : Value} : PartAt S W ⟨20, op, ty, n, t, kids⟩ ks pv v ↔ v = .iface 137 (.agg #[pv (ks.getD 0 0)]) := by simp [PartAt]
theorem pa_21 {S : Nat → Prop} {W : World} {op ty n kids : Int} {t : ByteArray} {ks : List Nat} {pv : Nat → Value} {v : Value} : PartAt S W ⟨21, op, ty, n, t, kids⟩ ks pv v ↔ ∃ ad cap, v = .iface 89 (.agg #[.slice ad ks.length cap]) ∧ RowP S W ad (ks.map pv) := by simp [PartAt]
theorem pa_22 {S : Nat → Prop} {W : World} {op ty n kids : Int} {t : ByteArray} {ks : List Nat} {pv : Nat → Value} {v : Value} : PartAt S W ⟨22, op, ty, n, t, kids⟩ ks pv v ↔ v = .iface 87 (.agg #[.string t, .int .i64 ty]) := by simp [PartAt]
theorem pa_23 {S : Nat → Prop} {W : World} {op ty n kids : Int} {t : ByteArray} {ks : List Nat} {pv : Nat → Value} {v : Value} : PartAt S W ⟨23, op, ty, n, t, kids⟩ ks pv v ↔ ∃ ad cap, v = .iface 81 (.agg #[.string t, .int .i64 ty, .slice ad (ks.length - 1) cap, pv (ks.getD (ks.length - 1) 0)]) ∧ RowP S W ad (ks.map pv) := by simp [PartAt]
theorem pa_24 {S : Nat → Prop} {W : World} {op ty n kids : Int} {t : ByteArray} {ks : List Nat} {pv : Nat → Value} {v : Value} : PartAt S W ⟨24, op, ty, n, t, kids⟩ ks pv v ↔ ∃ ad cap, v = .iface 78 (.agg #[.slice ad ks.length cap]) ∧ RowP S W ad (ks.map pv) := by simp [PartAt]
theorem PartAt.iface {S : Nat → Prop} {W : World} {x : Nd} {ks : List Nat} {pv : Nat → Value} {v : Value} (h : PartAt S W x ks pv v) : ∃ T y, v = .iface T y := by
  unfold PartAt at h
  rcases h with ⟨_, rfl⟩ | ⟨_, rfl⟩ | ⟨_, rfl⟩ | ⟨_, rfl⟩ | ⟨_, rfl⟩ | ⟨_, rfl⟩ | ⟨_, _, _, rfl, _⟩ | ⟨_, _, _, rfl, _⟩ | ⟨_, rfl⟩ | ⟨_, rfl⟩ | ⟨_, rfl⟩ | ⟨_, rfl⟩ | ⟨_, rfl⟩ | ⟨_, rfl⟩ | ⟨_, rfl⟩ | ⟨_, rfl⟩ | ⟨_, rfl⟩ | ⟨_, rfl⟩ | ⟨_, rfl⟩ | ⟨_, rfl⟩ | ⟨_, _, _, rfl, _⟩ | ⟨_, rfl⟩ | ⟨_, _, _, rfl, _⟩ | ⟨_, _, _, rfl, _⟩ <;> exact ⟨_, _, rfl⟩
theorem PartAt.congr {S : Nat → Prop} {W : World} {x : Nd} {ks : List Nat} {pv pu : Nat → Value} {v : Value} {kd : Nat → Int} (h : PartAt S W x ks pv v) (he : ∀ k ∈ ks, pu k = pv k) (hk : KidsOk x ks.length kd) : PartAt S W x ks pu v := by
  have hg : ∀ i, i < ks.length → pu (ks.getD i 0) = pv (ks.getD i 0) := fun i hi => he _ (by rw [List.getD_eq_getElem?_getD, List.getElem?_eq_getElem hi]; exact List.getElem_mem hi)
  have hm : ks.map pu = ks.map pv := List.map_congr_left he
  obtain ⟨k, op, ty, n, t, kids⟩ := x
  have hk24 : 1 ≤ k ∧ k ≤ 24 := by
    by_cases h : k < 1 ∨ 24 < k
    · exact absurd hk (ko_E k op ty n kids t _ _ h)
    · omega
  obtain rfl | rfl | rfl | rfl | rfl | rfl | rfl | rfl | rfl | rfl | rfl | rfl | rfl | rfl | rfl | rfl | rfl | rfl | rfl | rfl | rfl | rfl | rfl | rfl : k = 1 ∨ k = 2 ∨ k = 3 ∨ k = 4 ∨ k = 5 ∨ k = 6 ∨ k = 7 ∨ k = 8 ∨ k = 9 ∨ k = 10 ∨ k = 11 ∨ k = 12 ∨ k = 13 ∨ k = 14 ∨ k = 15 ∨ k = 16 ∨ k = 17 ∨ k = 18 ∨ k = 19 ∨ k = 20 ∨ k = 21 ∨ k = 22 ∨ k = 23 ∨ k = 24 := by omega
  · rw [pa_1] at h ⊢
    exact h
  · rw [pa_2] at h ⊢
    exact h
  · rw [pa_3] at h ⊢
    exact h
  · rw [pa_4] at h ⊢
    exact h
  · rw [pa_5] at h ⊢
    have hko := (ko_5 _ _ _ _ _ _ _).1 hk
    rw [hg 0 (by omega)]
    exact h
  · rw [pa_6] at h ⊢
    have hko := (ko_6 _ _ _ _ _ _ _).1 hk
    rw [hg 0 (by omega), hg 1 (by omega)]
    exact h
  · rw [pa_7] at h ⊢
    rw [hm]
    exact h
  · rw [pa_8] at h ⊢
    rw [hm]
    exact h
  · rw [pa_9] at h ⊢
    have hko := (ko_9 _ _ _ _ _ _ _).1 hk
    rw [hg 0 (by omega)]
    exact h
  · rw [pa_10] at h ⊢
    have hko := (ko_10 _ _ _ _ _ _ _).1 hk
    rw [hg 0 (by omega)]
    exact h
  · rw [pa_11] at h ⊢
    have hko := (ko_11 _ _ _ _ _ _ _).1 hk
    rw [hg 0 (by omega)]
    exact h
  · rw [pa_12] at h ⊢
    have hko := (ko_12 _ _ _ _ _ _ _).1 hk
    rw [hg 0 (by omega), hg 1 (by omega)]
    by_cases h2 : ks.length = 2
    · rw [if_pos h2] at h ⊢; exact h
    · rw [if_neg h2] at h ⊢
      rw [hg 2 (by omega)]; exact h
  · rw [pa_13] at h ⊢
    have hko := (ko_13 _ _ _ _ _ _ _).1 hk
    rw [hg 0 (by omega), hg 1 (by omega)]
    exact h
  · rw [pa_14] at h ⊢
    exact h
  · rw [pa_15] at h ⊢
    exact h
  · rw [pa_16] at h ⊢
    have hko := (ko_16 _ _ _ _ _ _ _).1 hk
    by_cases h2 : ks.length = 0
    · rw [if_pos h2] at h ⊢; exact h
    · rw [if_neg h2] at h ⊢
      rw [hg 0 (by omega)]; exact h
  · rw [pa_17] at h ⊢
    have hko := (ko_17 _ _ _ _ _ _ _).1 hk
    rw [hg 0 (by omega)]
    exact h
  · rw [pa_18] at h ⊢
    have hko := (ko_18 _ _ _ _ _ _ _).1 hk
    rw [hg 0 (by omega), hg 1 (by omega)]
    exact h
  · rw [pa_19] at h ⊢
    have hko := (ko_19 _ _ _ _ _ _ _).1 hk
    rw [hg 0 (by omega)]
    exact h
  · rw [pa_20] at h ⊢
    have hko := (ko_20 _ _ _ _ _ _ _).1 hk
    rw [hg 0 (by omega)]
    exact h
  · rw [pa_21] at h ⊢
    rw [hm]
    exact h
  · rw [pa_22] at h ⊢
    exact h
  · rw [pa_23] at h ⊢
    have hko := (ko_23 _ _ _ _ _ _ _).1 hk
    rw [hm, hg (ks.length - 1) (by omega)]
    exact h
  · rw [pa_24] at h ⊢
    rw [hm]
    exact h
theorem RowP.get {S : Nat → Prop} {W : World} {ad : Option Addr} {ks : List Nat} {pv : Nat → Value} (h : RowP S W ad (ks.map pv)) (hk : 0 < ks.length) : ∃ g, ad = some ⟨g, 0, none⟩ ∧ g < W.heap.size ∧ ∀ i, i < ks.length → W.cell? ⟨g, i, none⟩ = some (pv (ks.getD i 0)) := by
  rcases h with h | ⟨g, h1, _, ⟨cs, fr, h2⟩, h3⟩
  · rw [List.map_eq_nil_iff] at h; subst h; cases hk
  · exact ⟨g, h1, lt_blk h2, fun i hi => h3 i _ (by simp [hi])⟩
end Go.Proofs.YtkngjbpbjjoneaaGreatDoor.Q
