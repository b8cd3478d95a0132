import Derived.Test.YtpobfklbbkdglaaDoorJSLook
namespace Go.Proofs.YtpobfklbbkdglaaDoor
open Go.RowKit
set_option maxRecDepth 20000
/-- What the model's check tells: a code and a place. -/
def CheckR (nd : Nat → Nd) (N : Nat) (c a : Int) : Prop := (¬ ValidT nd N ∧ c = 11 ∧ a = 0) ∨
  ∃ o x, ValidT nd N ∧ kidsF nd N = some (o, [x]) ∧ ∃ cf, CodesOk cf (fun y => y ∈ fls (lookE nd o N)) ∧ (((∀ i, i < N → cf i = 0) ∧ c = 0 ∧ a = 0) ∨ ∃ i, i < N ∧ cf i ≠ 0 ∧ (∀ k, k < i → cf k = 0) ∧ c = (cf i : Int) ∧ a = (i : Int))
theorem ret2 {W : World} {r : Nat} {x y : Value} (h : W.heap[r]? = some (.cells #[x, y] 27 (0, 0))) (c a : Value) :
    ((W.setCell ⟨r, 0, none⟩ c).setCell ⟨r, 1, none⟩ a).cell? ⟨r, 0, none⟩ = some c ∧ ((W.setCell ⟨r, 0, none⟩ c).setCell ⟨r, 1, none⟩ a).cell? ⟨r, 1, none⟩ = some a := by
  have q0 := set_at a (i := 1) (set_at c (i := 0) h)
  constructor
  · unfold World.cell?; rw [q0]; rfl
  · unfold World.cell?; rw [q0]; rfl
theorem zero2 {W : World} {r : Nat} {x y : Value} (h : W.heap[r]? = some (.cells #[x, y] 27 (0, 0))) :
    W.cell? ⟨r, 0, none⟩ = some x ∧ W.cell? ⟨r, 1, none⟩ = some y ∧ W.frozen? ⟨r, 0, none⟩ = false ∧ W.frozen? ⟨r, 1, none⟩ = false := by
  refine ⟨?_, ?_, ?_, ?_⟩
  · unfold World.cell?; rw [h]; rfl
  · unfold World.cell?; rw [h]; rfl
  · unfold World.frozen?; rw [h]; simp
  · unfold World.frozen?; rw [h]; simp
set_option maxHeartbeats 2000000 in
theorem specCheck_any (b N cap : Nat) (nd : Nat → Nd) (w : World) (hN : N ≤ 1048576) (hb : b < w.heap.size) (hn : NodesAt w b N nd) (hx : ∀ i, i < N → (nd i).text.size ≤ maxLen) :
    Calls Tryd.prog 8 #[.agg #[.slice (some ⟨b, 0, none⟩) N cap]] w fun e w' => (∃ c a, e = .returned (.agg #[.int .i64 c, .int .i64 a]) ∧ CheckR nd N c a) ∧ Below w.heap.size w w' := by
  have HN := hid hn
  have HX := hid hx
  clear hn hx
  have HA : Hid (Below w.heap.size w ((w.alloc (.cells #[.slice (some ⟨b, 0, none⟩) N cap] 31)).alloc (.cells #[.int .i64 0, .int .i64 0] 27))) := ((Below.refl _ _).alloc (Nat.le_refl _) _).alloc (by simp) _
  have HR0 : Hid ((World.heap ((w.alloc (.cells #[.slice (some ⟨b, 0, none⟩) N cap] 31)).alloc (.cells #[.int .i64 0, .int .i64 0] 27)))[w.heap.size + 1]? = some (.cells #[.int .i64 0, .int .i64 0] 27 (0, 0)) ∧ ((w.alloc (.cells #[.slice (some ⟨b, 0, none⟩) N cap] 31)).alloc (.cells #[.int .i64 0, .int .i64 0] 27)).cell? ⟨w.heap.size, 0, none⟩ = some (.slice (some ⟨b, 0, none⟩) N cap)) := by
    refine ⟨?_, ?_⟩
    · have := heap_alloc_new (w.alloc (.cells #[.slice (some ⟨b, 0, none⟩) N cap] 31)) (.cells #[.int .i64 0, .int .i64 0] 27)
      rw [World.size_alloc] at this
      exact this
    · rw [cell_alloc_lt _ _ _ _ (by simp)]
      exact cell_new_row w _ _ 0
  have HSZ : Hid (((w.alloc (.cells #[.slice (some ⟨b, 0, none⟩) N cap] 31)).alloc (.cells #[.int .i64 0, .int .i64 0] 27)).heap.size = w.heap.size + 2) := by show _ = _; simp
  go_enter Tryd.func8, Tryd.ntmps8
  go_wp2_with fail
  refine (specValid_all b N cap nd _ hN (by rw [HSZ.out]; omega) (HN.out.below HA.out hb) HX.out).mono ?_
  rintro e w1 ⟨hs1, hb1⟩
  have HB1 := hid (HA.out.trans (hb1.mono (by rw [HSZ.out]; omega)))
  have hw1 : w.heap.size + 2 ≤ w1.heap.size := by have := hb1.size; rw [HSZ.out] at this; exact this
  have hF1 : w1.heap[w.heap.size + 1]? = some (.cells #[.int .i64 0, .int .i64 0] 27 (0, 0)) := (hb1.block _ (by rw [HSZ.out]; omega)).trans HR0.out.1
  have t1 : w1.cell? ⟨w.heap.size, 0, none⟩ = some (.slice (some ⟨b, 0, none⟩) N cap) := (hb1.cell (p := ⟨w.heap.size, 0, none⟩) (by rw [HSZ.out]; show w.heap.size < w.heap.size + 2; omega)).trans HR0.out.2
  clear hb1
  rcases hs1.get with ⟨rfl, hV⟩ | ⟨rfl, hV⟩
  · have HV := hid hV
    obtain ⟨_, hV2, _, o, xx, hV4, _⟩ := hV
    have HKF := hid hV4
    clear hV4 hs1
    go_wp2_with fail
    refine (l3Look_any b N cap nd o w1 (by omega) (HN.out.below HB1.out hb) HX.out HV.out xx HKF.out).mono ?_
    rintro e w2 ⟨wb, gc, gb, gk, b', cap', ck, cf, bn, rfl, hwb, hgc, _, hok, _, _, hb2⟩
    have HB2 := hid (HB1.out.trans (hb2.mono (by omega)))
    have hF2 := (hb2.block _ (by omega)).trans hF1
    have HF2 := hid hF2
    have HOK := hid hok
    have HGC := hid hgc
    have f2 : w2.cell? ⟨wb, 2, none⟩ = some (.slice (some ⟨gc, 0, none⟩) N N) := by unfold World.cell?; rw [hwb]; rfl
    obtain ⟨r0, r1, r2, r3⟩ := zero2 hF2
    clear hwb hgc hok hb2 hF2 hF1 t1
    go_wp2
    go_loopw [4] (fun i wr => ∃ j : Nat, j ≤ N ∧ i = .int .i64 j ∧ (∀ k, k < j → cf k = 0) ∧ wr = w2) (fun i _ => N - (intOf i).toNat)
    case atStart => exact ⟨0, Nat.zero_le _, rfl, fun k h => absurd h (Nat.not_lt_zero _), rfl⟩
    case round =>
      obtain ⟨j, hj, rfl, hno, rfl⟩ := hrel
      have HNO := hid hno
      clear hno
      by_cases hlt : j < N
      · obtain ⟨c0, _⟩ := HGC.out.cell j hlt
        by_cases hc : cf j = 0
        · rw [hc] at c0
          have HNX : Hid (∀ k, k < j + 1 → cf k = 0) := fun k hk => by
            rcases Nat.lt_or_eq_of_le (Nat.lt_succ_iff.1 hk) with h | h
            · exact HNO.out k h
            · subst h; exact hc
          clear hc
          go_wp2
          go_roundw
          case rel => exact ⟨j + 1, by omega, by go_num, HNX.out, trivial⟩
          case measure => simp [intOf]; omega
        · have HC := hid hc
          have q1 : ((cf j : Int) != 0) = true := by rw [bne_iff_ne]; omega
          clear hc
          obtain ⟨p0, p1⟩ := ret2 HF2.out (.int .i64 (cf j)) (.int .i64 j)
          have HBE : Hid (Below w.heap.size w ((wr.setCell ⟨w.heap.size + 1, 0, none⟩ (.int .i64 (cf j))).setCell ⟨w.heap.size + 1, 1, none⟩ (.int .i64 j))) := (HB2.out.setCell (p := ⟨w.heap.size + 1, 0, none⟩) (Nat.le_succ _) _).setCell (p := ⟨w.heap.size + 1, 1, none⟩) (Nat.le_succ _) _
          go_wp2
          generalize (wr.setCell ⟨w.heap.size + 1, 0, none⟩ (.int .i64 (cf j))).setCell ⟨w.heap.size + 1, 1, none⟩ (.int .i64 j) = w5 at *
          refine bodyPost_ret (v := .agg #[.int .i64 (cf j), .int .i64 j]) (by simp [results, Tryd.results8, go_sem, p0, p1]) rfl ?_
          exact ⟨⟨_, _, rfl, .inr ⟨o, xx, HV.out, HKF.out, cf, HOK.out, .inr ⟨j, hlt, HC.out, HNO.out, rfl, rfl⟩⟩⟩, HBE.out⟩
      · obtain rfl : j = N := by omega
        obtain ⟨p0, p1⟩ := ret2 HF2.out (.int .i64 0) (.int .i64 0)
        have HBE : Hid (Below w.heap.size w ((wr.setCell ⟨w.heap.size + 1, 0, none⟩ (.int .i64 0)).setCell ⟨w.heap.size + 1, 1, none⟩ (.int .i64 0))) := (HB2.out.setCell (p := ⟨w.heap.size + 1, 0, none⟩) (Nat.le_succ _) _).setCell (p := ⟨w.heap.size + 1, 1, none⟩) (Nat.le_succ _) _
        go_wp2
        generalize (wr.setCell ⟨w.heap.size + 1, 0, none⟩ (.int .i64 0)).setCell ⟨w.heap.size + 1, 1, none⟩ (.int .i64 0) = w5 at *
        refine bodyPost_ret (v := .agg #[.int .i64 0, .int .i64 0]) (by simp [results, Tryd.results8, go_sem, p0, p1]) rfl ?_
        exact ⟨⟨0, 0, rfl, .inr ⟨o, xx, HV.out, HKF.out, cf, HOK.out, .inl ⟨HNO.out, rfl, rfl⟩⟩⟩, HBE.out⟩
  · have HV := hid hV
    clear hV hs1
    obtain ⟨r0, r1, r2, r3⟩ := zero2 hF1
    obtain ⟨p0, p1⟩ := ret2 hF1 (.int .i64 11) (.int .i64 0)
    have HBE : Hid (Below w.heap.size w ((w1.setCell ⟨w.heap.size + 1, 0, none⟩ (.int .i64 11)).setCell ⟨w.heap.size + 1, 1, none⟩ (.int .i64 0))) := (HB1.out.setCell (p := ⟨w.heap.size + 1, 0, none⟩) (Nat.le_succ _) _).setCell (p := ⟨w.heap.size + 1, 1, none⟩) (Nat.le_succ _) _
    go_wp2
    clear r0 r1 r2 r3 t1 hF1
    generalize (w1.setCell ⟨w.heap.size + 1, 0, none⟩ (.int .i64 11)).setCell ⟨w.heap.size + 1, 1, none⟩ (.int .i64 0) = w2 at *
    refine bodyPost_ret (v := .agg #[.int .i64 11, .int .i64 0]) (by simp [results, Tryd.results8, go_sem, p0, p1]) rfl ?_
    exact ⟨⟨11, 0, rfl, .inl ⟨HV.out, rfl, rfl⟩⟩, HBE.out⟩
end Go.Proofs.YtpobfklbbkdglaaDoor
namespace Go.Proofs.YtpobfklbbkdglaaDoor
/-- What happens in a tree, as the program goes through it. -/
def treeE (nd : Nat → Nd) (o : List (List Nat)) (N : Nat) : List Ev :=
  (o.getD (N - 1) []).flatMap fun s => wk nd o s (fileEnv nd o (o.getD (N - 1) []) builtEnv) ++ mksE nd o s (fileEnv nd o (o.getD (N - 1) []) builtEnv)
theorem fileF_find (nd : Nat → Nd) (ms : List Nat) (f : ByteArray → Option Int) (t : ByteArray) : fileF nd f ms t = (f t).or ((ms.find? fun m => decide ((nd m).text = t)).map fun m => (m : Int)) := by
  induction ms generalizing f with
  | nil => simp [fileF]
  | cons m ms ih =>
    have e : fileF nd f (m :: ms) = fileF nd (addF f (nd m).text m) ms := rfl
    rw [e, ih]
    unfold addF
    by_cases h : t = (nd m).text
    · have h2 : (nd m).text = t := h.symm
      rw [if_pos h, List.find?_cons_of_pos (by simp [h2])]
      cases f t <;> simp
    · have h2 : ¬ (nd m).text = t := fun e => h e.symm
      rw [if_neg h, List.find?_cons_of_neg (by simp [h2])]
      simp
theorem ext_fold (L : List (ByteArray × Nat)) (kn : Env) (t : ByteArray) : (L.foldl (fun kn p => kn.ext p.1 p.2) kn) t = -1 ↔ (∀ p ∈ L, ¬ p.1 = t) ∧ kn t = -1 := by
  induction L generalizing kn with
  | nil => simp
  | cons p L ih =>
    rw [List.foldl_cons, ih]
    unfold Env.ext
    by_cases h : t = p.1
    · subst h
      simp only [if_true]
      constructor
      · rintro ⟨_, h⟩; omega
      · rintro ⟨h, _⟩; exact absurd rfl (h p (by simp))
    · rw [if_neg h]
      constructor
      · rintro ⟨h1, h2⟩
        refine ⟨fun q hq => ?_, h2⟩
        rcases List.mem_cons.1 hq with e | e
        · subst e; exact fun e => h e.symm
        · exact h1 q e
      · rintro ⟨h1, h2⟩
        exact ⟨fun q hq => h1 q (by simp [hq]), h2⟩
theorem env_same (nd : Nat → Nd) (o : List (List Nat)) (ks : List Nat) : Same (fileEnv nd o ks builtEnv) (envL (knOf nd (ks.flatMap (makersOf nd o)))) := by
  intro t
  unfold fileEnv envL
  rw [ext_fold, fileF_find]
  generalize ks.flatMap (makersOf nd o) = ms
  simp only [Option.none_or]
  cases hf : ms.find? fun m => decide ((nd m).text = t) with
  | none =>
    have := List.find?_eq_none.1 hf
    show builtEnv t = -1 ↔ _
    constructor
    · intro h
      refine ⟨fun p hp => ?_, h⟩
      unfold knOf at hp
      obtain ⟨m, hm, rfl⟩ := List.mem_map.1 hp
      have := this m hm
      simpa using this
    · exact fun h => h.2
  | some m =>
    have h1 := List.find?_some hf
    have h2 := List.mem_of_find?_eq_some hf
    show (m : Int) = -1 ↔ _
    constructor
    · intro h; omega
    · rintro ⟨h, _⟩
      exact absurd (by simpa using h1) (h ((nd m).text, m) (by unfold knOf; exact List.mem_map.2 ⟨m, h2, rfl⟩))
theorem mksE_flat (nd : Nat → Nd) (o : List (List Nat)) (s : Nat) (kn : Env) : mksE nd o s kn = (makersOf nd o s).flatMap (mkE nd kn) := by
  unfold mksE makersOf
  split
  · simp
  · split
    · rfl
    · rfl
theorem flatMap_one (l : List Nat) : l.flatMap (fun m => [(m, 8)]) = l.map fun m => (m, 8) := by
  induction l with
  | nil => rfl
  | cons a l ih => rw [List.flatMap_cons, List.map_cons, ih]; rfl
/-- The makers come in the order of the nodes. -/
theorem srt_makers {nd : Nat → Nd} {N : Nat} {o : List (List Nat)} {S : List Nat} (h : kidsF nd N = some (o, S)) (hN : 1 ≤ N) : ((o.getD (N - 1) []).flatMap (makersOf nd o)).Pairwise (· < ·) ∧ Srt (low o (N - 1)) (N - 1) (((o.getD (N - 1) []).flatMap (makersOf nd o)).map fun m => (m, 8)) := by
  obtain ⟨_, _, _, ht⟩ := tile_all h N (Nat.le_refl _)
  have hl := (kidsF_len nd _ _ _ h).1
  have one : ∀ s, s < N → Srt (low o s) (s + 1) ((makersOf nd o s).map fun m => (m, 8)) := fun s hs => by
    have t := ht s hs
    unfold makersOf
    split
    · exact (Srt.one s 8 (by decide)).mono t.le (Nat.le_refl _)
    · split
      · have := srt_tile (o := o) (f := fun m => [(m, 8)]) (o.getD s []) _ _ t fun m hm => (Srt.one m 8 (by decide)).mono ((ht m (by have := down_of h s m hm; omega)).le) (Nat.le_refl _)
        rw [flatMap_one] at this
        exact this.mono (Nat.le_refl _) (Nat.le_succ _)
      · exact Srt.nil _ _
  have key : Srt (low o (N - 1)) (N - 1) (((o.getD (N - 1) []).flatMap (makersOf nd o)).map fun m => (m, 8)) := by
    rw [List.map_flatMap]
    exact srt_tile _ _ _ (ht (N - 1) (by omega)) fun s hs => one s (by have := down_of h (N - 1) s hs; omega)
  refine ⟨?_, key⟩
  have := key.1
  rw [List.pairwise_map] at this
  exact this.imp fun {a b} hab => by rcases hab with h | h <;> simp only at h <;> omega
theorem srt_tree {nd : Nat → Nd} {N : Nat} {o : List (List Nat)} {S : List Nat} (h : kidsF nd N = some (o, S)) (hN : 1 ≤ N) (hfit : ∀ i, i < N → FitAt nd o i) (h24 : (nd (N - 1)).kind = 24) : Srt (low o (N - 1)) (N - 1) (fls (treeE nd o N)) := by
  obtain ⟨_, _, _, ht⟩ := tile_all h N (Nat.le_refl _)
  have hd := down_of h
  have hk := fun k hk => fits_kidded hfit k hk
  unfold treeE
  generalize fileEnv nd o (o.getD (N - 1) []) builtEnv = kn
  rw [fls_flatMap]
  refine srt_tile _ _ _ (ht (N - 1) (by omega)) fun s hs => ?_
  have hsN : s < N := by have := hd (N - 1) s hs; omega
  have hst := (kids_file (hfit (N - 1) (by omega)) h24).2 s hs
  have t := ht s hsN
  rw [fls_append]
  have k1 : ∀ m, Srt m (m + 1) (fls (mkE nd kn m)) := fun m => by
    unfold mkE
    split
    · exact Srt.nil _ _
    · exact Srt.one m 8 (by decide)
  by_cases h23 : (nd s).kind = 23
  · have e : wk nd o s kn = [] := by
      rw [wk_eq hd (hk s hsN)]
      unfold nodeE
      rw [if_neg (by omega), if_neg (by omega), if_neg (by omega), if_pos h23]
    rw [e]
    unfold mksE
    rw [if_neg (by omega), if_pos h23, fls_flatMap]
    exact (srt_tile (o := o) (f := fun m => fls (mkE nd kn m)) _ _ _ t fun m hm => (k1 m).mono ((ht m (by have := hd s m hm; omega)).le) (Nat.le_refl _)).mono (Nat.le_refl _) (Nat.le_succ _)
  · have w1 := (srt_wk hd N hk ht s hsN kn).2 (by omega)
    unfold mksE
    split
    · exact w1.append (k1 s) t.le (Nat.le_succ _)
    · show Srt _ _ (_ ++ [])
      rw [List.append_nil]
      exact w1.mono (Nat.le_refl _) (Nat.le_succ _)
theorem wk_root {nd : Nat → Nd} {N : Nat} {o : List (List Nat)} {S : List Nat} (h : kidsF nd N = some (o, S)) (hN : 1 ≤ N) (hfit : ∀ i, i < N → FitAt nd o i) (h24 : (nd (N - 1)).kind = 24) (kn : Env) : wk nd o (N - 1) kn = (o.getD (N - 1) []).flatMap fun s => wk nd o s kn := by
  rw [wk_eq (down_of h) (fits_kidded hfit (N - 1) (by omega))]
  unfold nodeE
  rw [if_neg (by omega), if_neg (by omega), if_neg (by omega), if_neg (by omega)]
theorem up_get {ms : List Nat} (h : ms.Pairwise (· < ·)) {i q : Nat} {m : Nat} (hi : ms[i]? = some m) (hq : ms[q]? = some m) : i = q := by
  obtain ⟨l1, e1⟩ := List.getElem?_eq_some_iff.1 hi
  obtain ⟨l2, e2⟩ := List.getElem?_eq_some_iff.1 hq
  rcases Nat.lt_trichotomy i q with hh | hh | hh
  · have := List.pairwise_iff_getElem.1 h i q l1 l2 hh; omega
  · exact hh
  · have := List.pairwise_iff_getElem.1 h q i l2 l1 hh; omega
/-- A maker is not the first of its name just where the model finds one ahead of it. -/
theorem mk_dup {nd : Nat → Nd} {o : List (List Nat)} {ks ms : List Nat} (hms : ms = ks.flatMap (makersOf nd o)) (hup : ms.Pairwise (· < ·)) {i m : Nat} (hi : ms[i]? = some m) : fileEnv nd o ks builtEnv (nd m).text = (m : Int) ↔ dupB nd (ms.take i) (nd m).text = false := by
  have hmm := List.mem_of_getElem? hi
  unfold fileEnv
  rw [← hms, fileF_find]
  show ((ms.find? fun x => decide ((nd x).text = (nd m).text)).map fun x => (x : Int)).getD _ = _ ↔ _
  cases hf : ms.find? fun x => decide ((nd x).text = (nd m).text) with
  | none => exact absurd (List.find?_eq_none.1 hf m hmm) (by simp)
  | some x =>
    show (x : Int) = (m : Int) ↔ _
    obtain ⟨hx, aa, bs, e, hno⟩ := List.find?_eq_some_iff_append.1 hf
    have hxi : ms[aa.length]? = some x := by rw [e, List.getElem?_append_right (Nat.le_refl _), Nat.sub_self]; rfl
    constructor
    · intro hh
      have hxm : x = m := by omega
      subst hxm
      have : i = aa.length := up_get hup hi hxi
      rw [this, e, List.take_left']
      · unfold dupB
        rw [List.any_eq_false]
        intro a ha
        have := hno a ha
        simpa using this
      · rfl
    · intro hh
      unfold dupB at hh
      rw [List.any_eq_false] at hh
      rcases Nat.lt_trichotomy aa.length i with hl | hl | hl
      · have : x ∈ ms.take i := List.mem_of_getElem? (i := aa.length) (by rw [List.getElem?_take_of_lt hl]; exact hxi)
        exact absurd hx (by simpa using hh x this)
      · rw [hl, hi] at hxi
        injection hxi with hxi
        rw [hxi]
      · have : m ∈ aa := List.mem_of_getElem? (i := i) (by rw [e, List.getElem?_append_left hl] at hi; exact hi)
        have := hno m this
        simp at this
theorem fls_flt8 (b : Bool) (y c : Nat) (z : Nat × Nat) : z ∈ fls (flt8 b y c) ↔ b = true ∧ z = (y, c) := by
  unfold flt8
  cases b <;> simp [fls]
/-- Both find the same faults. -/
theorem faults_same {nd : Nat → Nd} {N : Nat} {o : List (List Nat)} {S : List Nat} (h : kidsF nd N = some (o, S)) (hN : 1 ≤ N) (hfit : ∀ i, i < N → FitAt nd o i) (h24 : (nd (N - 1)).kind = 24) (z : Nat × Nat) : z ∈ fls (treeE nd o N) ↔ z ∈ fls (lookE nd o N) := by
  have hd := down_of h
  have hup := (srt_makers h hN).1
  obtain ⟨ks, hks⟩ : ∃ ks, o.getD (N - 1) [] = ks := ⟨_, rfl⟩
  obtain ⟨ms, hms⟩ : ∃ ms, ms = ks.flatMap (makersOf nd o) := ⟨_, rfl⟩
  have hsame := env_same nd o ks
  have hsN : ∀ s ∈ ks, s < N := fun s hs => by have := hd (N - 1) s (by rw [hks]; exact hs); omega
  unfold treeE lookE
  rw [wk_root h hN hfit h24, hks]
  rw [hks] at hup
  rw [← hms] at hup hsame ⊢
  rw [fls_flatMap, fls_append, fls_flatMap, List.mem_flatMap, List.mem_append, List.mem_flatMap]
  have e8 : z ∈ fls (madeE nd ms ms.length) ↔ ∃ m ∈ ms, z ∈ fls (mkE nd (fileEnv nd o ks builtEnv) m) := by
    unfold madeE
    rw [fls_flatMap, List.mem_flatMap]
    constructor
    · rintro ⟨i, hi, hz⟩
      have hil := List.mem_range.1 hi
      rw [fls_flt8] at hz
      have hg : ms[i]? = some ms[i] := List.getElem?_eq_getElem hil
      have hgd : ms.getD i 0 = ms[i] := by rw [List.getD_eq_getElem?_getD, hg]; rfl
      rw [hgd] at hz
      refine ⟨ms[i], List.getElem_mem hil, ?_⟩
      have hq := mk_dup hms hup hg
      unfold mkE
      rw [if_neg (fun e => by rw [hq.1 e] at hz; exact absurd hz.1 (by decide))]
      rw [hz.2]
      simp [fls]
    · rintro ⟨m, hm, hz⟩
      obtain ⟨i, hil, hg⟩ := List.getElem_of_mem hm
      have hg' : ms[i]? = some m := by rw [List.getElem?_eq_getElem hil, hg]
      have hgd : ms.getD i 0 = m := by rw [List.getD_eq_getElem?_getD, hg']; rfl
      refine ⟨i, List.mem_range.2 hil, ?_⟩
      rw [fls_flt8, hgd]
      have hq := mk_dup hms hup hg'
      unfold mkE at hz
      by_cases hc : fileEnv nd o ks builtEnv (nd m).text = (m : Int)
      · rw [if_pos hc] at hz; cases hz
      · rw [if_neg hc] at hz
        refine ⟨?_, by simpa [fls] using hz⟩
        cases hb : dupB nd (ms.take i) (nd m).text with
        | true => rfl
        | false => exact absurd (hq.2 hb) hc
  rw [e8]
  constructor
  · rintro ⟨s, hs, hz⟩
    rw [fls_append, List.mem_append] at hz
    rcases hz with hz | hz
    · exact .inr ⟨s, hs, by rw [← fls_same hd N (fun k hk => fits_kidded hfit k hk) s (hsN s hs) _ _ hsame]; exact hz⟩
    · rw [mksE_flat, fls_flatMap, List.mem_flatMap] at hz
      obtain ⟨m, hm, hz⟩ := hz
      exact .inl ⟨m, by rw [hms]; exact List.mem_flatMap.2 ⟨s, hs, hm⟩, hz⟩
  · rintro (⟨m, hm, hz⟩ | ⟨s, hs, hz⟩)
    · rw [hms] at hm
      obtain ⟨s, hs, hm⟩ := List.mem_flatMap.1 hm
      refine ⟨s, hs, ?_⟩
      rw [fls_append, List.mem_append, mksE_flat, fls_flatMap, List.mem_flatMap]
      exact .inr ⟨m, hm, hz⟩
    · refine ⟨s, hs, ?_⟩
      rw [fls_append, List.mem_append]
      exact .inl (by rw [fls_same hd N (fun k hk => fits_kidded hfit k hk) s (hsN s hs) _ _ hsame]; exact hz)
/-- The first fault of the program is what the model tells. -/
theorem first_same {nd : Nat → Nd} {N : Nat} {o : List (List Nat)} {S : List Nat} (h : kidsF nd N = some (o, S)) (hN : 1 ≤ N) (hfit : ∀ i, i < N → FitAt nd o i) (h24 : (nd (N - 1)).kind = 24) {cf : Nat → Nat} (hok : CodesOk cf (fun y => y ∈ fls (lookE nd o N))) :
    (fls (treeE nd o N) = [] → ∀ i, cf i = 0) ∧ ∀ k c r, fls (treeE nd o N) = (k, c) :: r → k < N ∧ cf k = c ∧ c ≠ 0 ∧ ∀ i, i < k → cf i = 0 := by
  have hs := srt_tree h hN hfit h24
  have hf := faults_same h hN hfit h24
  constructor
  · intro e i
    rcases hok i with ⟨h1, _⟩ | ⟨h1, _⟩
    · exact h1
    · rw [← hf, e] at h1; cases h1
  · intro k c r e
    rw [e] at hs
    have hm : (k, c) ∈ fls (lookE nd o N) := by rw [← hf, e]; simp
    have hb := hs.2 (k, c) (by simp)
    simp only at hb
    have hlow : ∀ y ∈ r, FLt (k, c) y := fun y hy => (List.pairwise_cons.1 hs.1).1 y hy
    refine ⟨by omega, ?_, by omega, fun i hi => ?_⟩
    · rcases hok k with ⟨_, h2⟩ | ⟨h1, _, h3⟩
      · exact absurd hm (h2 c)
      · have := h3 c hm
        rw [← hf, e] at h1
        rcases List.mem_cons.1 h1 with h1 | h1
        · injection h1
        · rcases hlow _ h1 with h | h <;> simp only at h <;> omega
    · rcases hok i with ⟨h1, _⟩ | ⟨h1, _⟩
      · exact h1
      · rw [← hf, e] at h1
        rcases List.mem_cons.1 h1 with h1 | h1
        · injection h1 with h1; omega
        · rcases hlow _ h1 with h | h <;> simp only at h <;> omega
end Go.Proofs.YtpobfklbbkdglaaDoor
namespace Go.Proofs.YtpobfklbbkdglaaDoor
theorem ext_some (L : List (ByteArray × Nat)) (kn : Env) (t : ByteArray) : (∃ p ∈ L, p.1 = t ∧ (L.foldl (fun kn p => kn.ext p.1 p.2) kn) t = (p.2 : Int)) ∨ ((∀ p ∈ L, ¬ (p.1 = t)) ∧ (L.foldl (fun kn p => kn.ext p.1 p.2) kn) t = kn t) := by
  induction L generalizing kn with
  | nil => exact .inr ⟨fun p hp => (by cases hp), rfl⟩
  | cons p L ih =>
    rw [List.foldl_cons]
    rcases ih (kn.ext p.1 p.2) with ⟨q, hq, e1, e2⟩ | ⟨h1, h2⟩
    · exact .inl ⟨q, by simp [hq], e1, e2⟩
    · rw [h2]
      unfold Env.ext
      by_cases h : t = p.1
      · exact .inl ⟨p, by simp, h.symm, by rw [if_pos h]⟩
      · refine .inr ⟨fun q hq => ?_, by rw [if_neg h]⟩
        rcases List.mem_cons.1 hq with e | e
        · subst e; exact fun e => h e.symm
        · exact h1 q e
theorem apB_flts (es : List Ev) (bn : Nat → Int) (h : ∀ e ∈ es, ∃ k c, e = .flt k c) : apB bn es = bn := by
  induction es with
  | nil => rfl
  | cons e es ih =>
    obtain ⟨k, c, rfl⟩ := h e (by simp)
    show apB bn es = bn
    exact ih fun e he => h e (by simp [he])
theorem mksE_flts (nd : Nat → Nd) (o : List (List Nat)) (s : Nat) (kn : Env) : ∀ e ∈ mksE nd o s kn, ∃ k c, e = .flt k c := by
  intro e he
  rw [mksE_flat] at he
  obtain ⟨m, _, hm⟩ := List.mem_flatMap.1 he
  unfold mkE at hm
  split at hm
  · cases hm
  · exact ⟨_, _, by simpa using hm⟩
theorem madeE_flts (nd : Nat → Nd) (ms : List Nat) (n : Nat) : ∀ e ∈ madeE nd ms n, ∃ k c, e = .flt k c := by
  intro e he
  unfold madeE at he
  obtain ⟨m, _, hm⟩ := List.mem_flatMap.1 he
  unfold flt8 at hm
  split at hm
  · exact ⟨_, _, by simpa using hm⟩
  · cases hm
theorem apB_flat (l : List Nat) (f g : Nat → List Ev) (hg : ∀ s ∈ l, ∀ e ∈ g s, ∃ k c, e = .flt k c) (bn : Nat → Int) : apB bn (l.flatMap fun s => f s ++ g s) = apB bn (l.flatMap f) := by
  induction l generalizing bn with
  | nil => rfl
  | cons s l ih =>
    rw [List.flatMap_cons, List.flatMap_cons, apB_append, apB_append, apB_append, apB_flts _ _ (hg s (by simp))]
    exact ih (fun s hs => hg s (by simp [hs])) _
/-- Where no name is made twice both know the same. -/
theorem env_eq {nd : Nat → Nd} {N : Nat} {o : List (List Nat)} {S : List Nat} (_h : kidsF nd N = some (o, S)) (h0 : fls (treeE nd o N) = []) : fileEnv nd o (o.getD (N - 1) []) builtEnv = envL (knOf nd ((o.getD (N - 1) []).flatMap (makersOf nd o))) := by
  funext t
  unfold treeE at h0
  rw [fls_flatMap] at h0
  generalize o.getD (N - 1) [] = ks at *
  have hm : ∀ m ∈ ks.flatMap (makersOf nd o), fileEnv nd o ks builtEnv (nd m).text = (m : Int) := fun m hm => by
    obtain ⟨s, hs, hm⟩ := List.mem_flatMap.1 hm
    have h1 := List.flatMap_eq_nil_iff.1 h0 s hs
    rw [fls_append] at h1
    have h2 := (List.append_eq_nil_iff.1 h1).2
    rw [mksE_flat, fls_flatMap] at h2
    have h3 := List.flatMap_eq_nil_iff.1 h2 m hm
    unfold mkE at h3
    split at h3
    · assumption
    · simp [fls] at h3
  rcases ext_some (knOf nd (ks.flatMap (makersOf nd o))) builtEnv t with ⟨p, hp, e1, e2⟩ | ⟨h1, h2⟩
  · unfold envL
    rw [e2]
    unfold knOf at hp
    obtain ⟨m, hmm, rfl⟩ := List.mem_map.1 hp
    simp only at e1
    rw [← e1]
    exact hm m hmm
  · unfold envL
    rw [h2]
    unfold fileEnv
    rw [fileF_find]
    have : (ks.flatMap (makersOf nd o)).find? (fun m => decide ((nd m).text = t)) = none := by
      rw [List.find?_eq_none]
      intro m hmm
      have := h1 ((nd m).text, m) (by unfold knOf; exact List.mem_map.2 ⟨m, hmm, rfl⟩)
      simpa using this
    rw [this]
    rfl
/-- Where nothing is wrong both bind the same. -/
theorem binds_same {nd : Nat → Nd} {N : Nat} {o : List (List Nat)} {S : List Nat} (h : kidsF nd N = some (o, S)) (hN : 1 ≤ N) (hfit : ∀ i, i < N → FitAt nd o i) (h24 : (nd (N - 1)).kind = 24) (h0 : fls (treeE nd o N) = []) (bn : Nat → Int) : apB bn (treeE nd o N) = apB bn (lookE nd o N) := by
  have he := env_eq h h0
  unfold treeE lookE
  rw [apB_append, apB_flts _ _ (madeE_flts _ _ _), apB_flat _ _ _ (fun s _ => mksE_flts nd o s _), wk_root h hN hfit h24, he]
end Go.Proofs.YtpobfklbbkdglaaDoor
