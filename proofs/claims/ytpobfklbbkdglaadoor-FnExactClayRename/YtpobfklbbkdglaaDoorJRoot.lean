import Derived.Test.YtpobfklbbkdglaaDoorJNFunc
import Derived.Test.YtpobfklbbkdglaaDoorJScope
import Derived.Test.YtpobfklbbkdglaaDoorJNWalk
namespace Go.Proofs.YtpobfklbbkdglaaDoor
open Go.RowKit Go.Maps Go.WideMaps
set_option maxRecDepth 20000
/-- The nodes of a statement that make names of the file. -/
def makersOf (nd : Nat → Nd) (o : List (List Nat)) (s : Nat) : List Nat := if (nd s).kind = 20 ∨ (nd s).kind = 21 then [s] else if (nd s).kind = 23 then o.getD s [] else []
def fileF (nd : Nat → Nd) (f : ByteArray → Option Int) (ms : List Nat) : ByteArray → Option Int := ms.foldl (fun f m => addF f (nd m).text m) f
theorem fileF_append (nd : Nat → Nd) (f : ByteArray → Option Int) (a b : List Nat) : fileF nd f (a ++ b) = fileF nd (fileF nd f a) b := by simp [fileF]
theorem fileF_one (nd : Nat → Nd) (f : ByteArray → Option Int) (a : Nat) : fileF nd f [a] = addF f (nd a).text a := rfl
theorem makers_len (x : Bx) (hx : x.Ok) (s : Nat) : (makersOf x.nd x.o s).length ≤ 5000 := by
  unfold makersOf
  split
  · simp
  · split
    · exact hx.kids s
    · simp
theorem makers_flat (x : Bx) (hx : x.Ok) (l : List Nat) : (l.flatMap (makersOf x.nd x.o)).length ≤ l.length * 5000 := by
  induction l with
  | nil => simp
  | cons a l ih =>
    rw [List.flatMap_cons, List.length_append, List.length_cons]
    have := makers_len x hx a
    omega
theorem makers_place (x : Bx) (hx : x.Ok) (s : Nat) (hs : s < x.N) : ∀ m ∈ makersOf x.nd x.o s, m < x.N := by
  intro m hm
  unfold makersOf at hm
  split at hm
  · simp at hm; omega
  · split at hm
    · exact hx.place s m hm
    · cases hm
set_option maxHeartbeats 2000000 in
theorem file_any (x : Bx) (hx : x.Ok) (ks : List Nat) (hpN : ∀ q ∈ ks, q < x.N) (hlen : ks.length ≤ 4000) (kn : Env)
    (ad : Option Addr) (cp : Nat) (a : Option Addr) (bn : Nat → Int) (p : Int × Int) (w : World) (hp : Stb x.S w fun W => PlA W ad ks) (h : x.At w bn p.1 p.2) (ht : Stb x.S w x.Tree) (hk : Kn x.S w (.pointer a) kn) :
    Calls Tryd.prog 77 #[.pointer (some ⟨x.bb, 0, none⟩), .slice ad ks.length cp, .pointer a] w fun e w' => ∃ b, e = .returned (.pointer (some ⟨b, 0, none⟩)) ∧ Kn x.S w' (.pointer (some ⟨b, 0, none⟩)) (fun t => (fileF x.nd (fun _ => none) (ks.flatMap (makersOf x.nd x.o)) t).getD (kn t)) ∧ Below w.heap.size w w' := by
  have HX := hid hx
  have HPN := hid hpN
  have HP := hid hp
  have H := hid h
  have HT := hid ht
  have HK := hid hk
  clear hx hpN hp h ht hk
  obtain ⟨m, hm⟩ : ∃ m, ks.length = m := ⟨_, rfl⟩
  have HM := hid hm
  rw [hm] at hlen ⊢
  clear hm
  go_enter Tryd.func77, Tryd.ntmps77
  go_wp2_with (first
    | (go_at_call 90; refine (inside_any a _).mono ?_; rintro e w1 ⟨b, mm, rfl, htop, hb, hmm, hbw⟩; have HTOP := hid htop; have HBW := hid hbw; clear htop hbw))
  have HSb : Hid (¬ x.S b) := fun h => by have := H.out.lt b h; omega
  have HSm : Hid (¬ x.S mm) := fun h => by have := H.out.lt mm h; omega
  go_loopw [16] (fun i wr => ∃ (j : Nat), j ≤ m ∧ i = .int .i64 j ∧ Top wr b mm ((ks.take j).flatMap (makersOf x.nd x.o)).length (fileF x.nd (fun _ => none) ((ks.take j).flatMap (makersOf x.nd x.o))) (.pointer a) ∧ Below w.heap.size w wr) (fun i _ => m - (intOf i).toNat)
  case atStart => exact ⟨0, Nat.zero_le _, rfl, HTOP.out, HBW.out⟩
  case round =>
    obtain ⟨j, hj, rfl, htop, hbw⟩ := hrel
    clear HTOP
    have HTOP := hid htop
    have HBR := hid hbw
    clear htop hbw
    by_cases hlt : j < m
    · have HSR : Hid (Sv x.S w wr) := Sv.of_below HBR.out
      have HA := hid (H.out.go HBR.out)
      have hpl := HP.out _ HSR.out
      rcases hpl with e | ⟨g, q, rfl, hc⟩
      · have := HM.out; rw [e] at this; simp at this; omega
      have c0 := hc j (by have := HM.out; omega)
      obtain ⟨y, hy⟩ : ∃ y, ks.getD j 0 = y := ⟨_, rfl⟩
      have HY := hid hy
      rw [hy] at c0
      clear hc hy
      have hmem : y ∈ ks := by
        rw [← HY.out, List.getD_eq_getElem?_getD, List.getElem?_eq_getElem (by have := HM.out; omega)]
        simp
      have hyN := HPN.out y hmem
      have hN5 := HX.out.N
      have hml := makers_flat x HX.out (ks.take j)
      rw [List.length_take, Nat.min_eq_left (by have := HM.out; omega)] at hml
      have HTK : Hid ((ks.take (j + 1)).flatMap (makersOf x.nd x.o) = (ks.take j).flatMap (makersOf x.nd x.o) ++ makersOf x.nd x.o y) := by
        rw [List.take_succ_eq_append_getElem (by have := HM.out; omega)]
        have e : ks[j]'(by have := HM.out; omega) = y := by rw [← HY.out, List.getD_eq_getElem?_getD, List.getElem?_eq_getElem (by have := HM.out; omega)]; simp
        rw [e, List.flatMap_append]
        have e2 : [y].flatMap (makersOf x.nd x.o) = makersOf x.nd x.o y := by simp
        rw [e2]
        rfl
      generalize (ks.take j).flatMap (makersOf x.nd x.o) = ms at *
      obtain ⟨f0, f1, f2, f3, f4, f5, f6⟩ := HA.out.five
      obtain ⟨n0, n1, n2, n3, n4⟩ := (HT.out _ HSR.out).1 y hyN
      obtain ⟨nm, hnm⟩ : ∃ nm, ms.length = nm := ⟨_, rfl⟩
      have HNM := hid hnm
      rw [hnm] at hml HTOP
      clear hmem hnm
      have hmx : nm < maxLen := by unfold maxLen; omega
      by_cases h20 : (x.nd y).kind = 20 ∨ (x.nd y).kind = 21
      · have e : makersOf x.nd x.o y = [y] := by unfold makersOf; rw [if_pos h20]
        have HTK2 : Hid ((ks.take (j + 1)).flatMap (makersOf x.nd x.o) = ms ++ [y]) := HTK.out.trans (by rw [e])
        clear e
        rcases h20 with h20 | h20
        all_goals
          rw [h20] at n0
          clear h20
          go_wp2_with (first
            | (go_at_call 91; refine (add_any b mm nm _ _ _ y _ (HX.out.text y hyN) (by omega) hmx HTOP.out).mono ?_; rintro e w2 ⟨rfl, ht2, hg2⟩; have HT2 := hid ht2; have HB2 := hid (HBR.out.grown hg2 HBR.out.size (fun q e => by injection e with e; omega)); clear ht2 hg2))
          go_roundw
          case rel =>
            refine ⟨j + 1, by omega, by go_num, ?_, HB2.out⟩
            rw [HTK2.out, fileF_append, fileF_one, List.length_append, HNM.out]
            exact HT2.out
          case measure => simp [intOf]; omega
      by_cases h23 : (x.nd y).kind = 23
      · obtain ⟨kl, hkl⟩ : ∃ kl, x.o.getD y [] = kl := ⟨_, rfl⟩
        have e : makersOf x.nd x.o y = kl := by unfold makersOf; rw [if_neg h20, if_pos h23, hkl]
        have HTK2 : Hid ((ks.take (j + 1)).flatMap (makersOf x.nd x.o) = ms ++ kl) := HTK.out.trans (by rw [e])
        obtain ⟨ad, c, hk1, hk2, hk3, hk4⟩ := Bx.kids HX.out HT.out y hyN
        have hkN := HX.out.place y
        have hl5 := HX.out.kids y
        rw [hkl] at hk4 hk1 hk3 hkN hl5
        have HKN := hid hkN
        have HK4 := hid hk4
        have k0 := (hk4 _ HSR.out).1
        obtain ⟨l, hl⟩ : ∃ l, kl.length = l := ⟨_, rfl⟩
        have HL := hid hl
        rw [hl] at k0 hk1 hl5
        rw [h23] at n0
        clear e h20 h23 hkl hk4 hk3 hkN hl
        go_wp2
        clear k0 f0 f1 f2 f3 f4 f5 f6 n0 n1 n2 n3 n4 c0
        go_loopw [52] (fun i wr => ∃ (i' : Nat), i' ≤ l ∧ i = .int .i64 i' ∧ Top wr b mm (nm + i') (fileF x.nd (fun _ => none) (ms ++ kl.take i')) (.pointer a) ∧ Below w.heap.size w wr) (fun i _ => l - (intOf i).toNat)
        case atStart =>
          refine ⟨0, Nat.zero_le _, rfl, ?_, HBR.out⟩
          rw [List.take_zero, List.append_nil, Nat.add_zero]
          exact HTOP.out
        case round =>
          obtain ⟨i, hi, rfl, htop, hbw⟩ := hrel
          clear HTOP HSR HA HBR
          have HTOP := hid htop
          have HBR := hid hbw
          clear htop hbw
          by_cases hil : i < l
          · have HSR : Hid (Sv x.S w wr) := Sv.of_below HBR.out
            have HA := hid (H.out.go HBR.out)
            have hpl := (HK4.out _ HSR.out).2
            rcases hpl with e | ⟨g', q', rfl, hc⟩
            · have := HL.out; rw [e] at this; simp at this; omega
            have c0 := hc i (by have := HL.out; omega)
            obtain ⟨z, hz⟩ : ∃ z, kl.getD i 0 = z := ⟨_, rfl⟩
            have HZ := hid hz
            rw [hz] at c0
            clear hc hz
            have hmem : z ∈ kl := by
              rw [← HZ.out, List.getD_eq_getElem?_getD, List.getElem?_eq_getElem (by have := HL.out; omega)]
              simp
            have hzN := HKN.out z hmem
            clear hmem
            have HTI : Hid (ms ++ kl.take (i + 1) = (ms ++ kl.take i) ++ [z]) := by
              show _ = _
              rw [List.take_succ_eq_append_getElem (by have := HL.out; omega)]
              have e : kl[i]'(by have := HL.out; omega) = z := by rw [← HZ.out, List.getD_eq_getElem?_getD, List.getElem?_eq_getElem (by have := HL.out; omega)]; simp
              rw [e, List.append_assoc]
            obtain ⟨f0, f1, f2, f3, f4, f5, f6⟩ := HA.out.five
            obtain ⟨n0, n1, n2, n3, n4⟩ := (HT.out _ HSR.out).1 z hzN
            have hmx2 : nm + i < maxLen := by unfold maxLen; omega
            go_wp2_with (first
              | (go_at_call 91; refine (add_any b mm (nm + i) _ _ _ z _ (HX.out.text z hzN) (by omega) hmx2 HTOP.out).mono ?_; rintro e w2 ⟨rfl, ht2, hg2⟩; have HT2 := hid ht2; have HB2 := hid (HBR.out.grown hg2 HBR.out.size (fun q e => by injection e with e; omega)); clear ht2 hg2))
            go_roundw
            case rel =>
              refine ⟨i + 1, by omega, by go_num, ?_, HB2.out⟩
              rw [HTI.out, fileF_append, fileF_one]
              exact HT2.out
            case measure => simp [intOf]; omega
          · obtain rfl : i = l := by omega
            have e : kl.take i = kl := List.take_of_length_le (by have := HL.out; omega)
            rw [e] at HTOP
            clear e
            go_wp2
            go_roundw
            case rel =>
              refine ⟨j + 1, by omega, by go_num, ?_, HBR.out⟩
              rw [HTK2.out, List.length_append, HNM.out, HL.out]
              exact HTOP.out
            case measure => simp [intOf]; omega
      · have e : makersOf x.nd x.o y = [] := by unfold makersOf; rw [if_neg h20, if_neg h23]
        have HTK2 : Hid ((ks.take (j + 1)).flatMap (makersOf x.nd x.o) = ms) := HTK.out.trans (by rw [e]; simp)
        have q5 : ((x.nd y).kind == 20) = false := by rw [beq_eq_false_iff_ne]; omega
        have q6 : ((x.nd y).kind == 21) = false := by rw [beq_eq_false_iff_ne]; omega
        have q7 : ((x.nd y).kind == 23) = false := by rw [beq_eq_false_iff_ne]; omega
        clear e h20 h23
        go_wp2
        go_roundw
        case rel =>
          refine ⟨j + 1, by omega, by go_num, ?_, HBR.out⟩
          rw [HTK2.out, HNM.out]
          exact HTOP.out
        case measure => simp [intOf]; omega
    · obtain rfl : j = m := by omega
      have e : ks.take j = ks := List.take_of_length_le (by have := HM.out; omega)
      rw [e] at HTOP
      clear e
      go_wp2
      go_ret
      exact ⟨b, rfl, HK.out.top (Sv.of_below HBR.out) HTOP.out HSb.out HSm.out hb, HBR.out⟩
end Go.Proofs.YtpobfklbbkdglaaDoor
namespace Go.Proofs.YtpobfklbbkdglaaDoor
open Go.RowKit Go.Maps Go.WideMaps
set_option maxRecDepth 20000
theorem walk_inner (x : Bx) (hx : x.Ok) (k : Nat) : k < x.N → (x.nd k).kind ≤ 19 → WalkOk x k := by
  induction k using Nat.strongRecOn with
  | ind k ih =>
    intro hk h19 kn
    have := walk_any x hx k hk (by omega) (fun j hj h => ih j hj (by omega) h) kn
    have e : mksE x.nd x.o k kn = [] := by unfold mksE; rw [if_neg (by omega), if_neg (by omega)]
    intro a bn p w h1 h2 h3
    have := this a bn p w h1 h2 h3
    simp only [e, List.append_nil] at this
    exact this
theorem walk_st (x : Bx) (hx : x.Ok) (k : Nat) (hk : k < x.N) (h23 : (x.nd k).kind ≤ 23) (kn : Env) : WalksTo x k (fun kn => wk x.nd x.o k kn ++ mksE x.nd x.o k kn) kn :=
  walk_any x hx k hk h23 (fun j hj h => walk_inner x hx j (by omega) h) kn
theorem kids_file {nd : Nat → Nd} {o : List (List Nat)} {k : Nat} (h : FitAt nd o k) (hk : (nd k).kind = 24) : (o.getD k []).length ≤ 200 ∧ ∀ j ∈ o.getD k [], 20 ≤ (nd j).kind ∧ (nd j).kind ≤ 23 := by
  obtain ⟨_, h⟩ := h
  have : (o.getD k []).length ≤ 200 ∧ ∀ i, i < (o.getD k []).length → 20 ≤ (nd ((o.getD k []).getD i 0)).kind ∧ (nd ((o.getD k []).getD i 0)).kind ≤ 23 := by
    rcases h with h | h | h | h | h | h | h | h | h | h | h | h
    all_goals first | omega | exact ⟨h.2.1, h.2.2⟩
  refine ⟨this.1, fun j hj => ?_⟩
  obtain ⟨i, hi, rfl⟩ := List.getElem_of_mem hj
  have h2 := this.2 i hi
  rw [List.getD_eq_getElem?_getD, List.getElem?_eq_getElem hi] at h2
  exact h2
/-- What is known in a file. -/
def fileEnv (nd : Nat → Nd) (o : List (List Nat)) (ks : List Nat) (kn : Env) : Env := fun t => (fileF nd (fun _ => none) (ks.flatMap (makersOf nd o)) t).getD (kn t)
set_option maxHeartbeats 2000000 in
theorem walk_root (x : Bx) (hx : x.Ok) (k : Nat) (hkN : k < x.N) (h24 : (x.nd k).kind = 24) (kn : Env) (a : Option Addr) (bn : Nat → Int) (p : Int × Int) (w : World) (h : x.At w bn p.1 p.2) (ht : Stb x.S w x.Tree) (hk : Kn x.S w (.pointer a) kn) :
    Calls Tryd.prog 51 #[.pointer (some ⟨x.bb, 0, none⟩), .int .i64 k, .pointer a] w fun e w' => e = .returned (.tuple #[]) ∧
      x.Ends w w' bn p ((x.o.getD k []).flatMap fun s => wk x.nd x.o s (fileEnv x.nd x.o (x.o.getD k []) kn) ++ mksE x.nd x.o s (fileEnv x.nd x.o (x.o.getD k []) kn)) := by
  obtain ⟨evs, hev⟩ : ∃ evs, ((x.o.getD k []).flatMap fun s => wk x.nd x.o s (fileEnv x.nd x.o (x.o.getD k []) kn) ++ mksE x.nd x.o s (fileEnv x.nd x.o (x.o.getD k []) kn)) = evs := ⟨_, rfl⟩
  rw [hev]
  have HEV := hid hev
  have H24 := hid h24
  clear hev h24
  have hb1 : ∀ O, Below w.heap.size w (w.alloc O) := fun O => (Below.refl _ _).alloc (Nat.le_refl _) O
  have hSn : ¬ x.S w.heap.size := fun e => absurd (h.lt _ e) (Nat.lt_irrefl _)
  obtain ⟨f0, f1, f2, f3, f4, f5, f6⟩ := h.five
  have g0 : ∀ O, (w.alloc O).cell? ⟨x.bb, 0, none⟩ = _ := fun O => (h.go (hb1 O)).five.1
  have g1 : ∀ O, (w.alloc O).cell? ⟨x.bb, 1, none⟩ = _ := fun O => (h.go (hb1 O)).five.2.1
  obtain ⟨c0, c1, c2, c3, c4⟩ := ht.now.1 k hkN
  have d0 : ∀ O, (w.alloc O).cell? ⟨x.g, k * 5, none⟩ = _ := fun O => ((ht _ (Sv.of_below (hb1 O))).1 k hkN).1
  have d1 : ∀ O, (w.alloc O).cell? ⟨x.g, k * 5 + 1, none⟩ = _ := fun O => ((ht _ (Sv.of_below (hb1 O))).1 k hkN).2.1
  have d2 : ∀ O, (w.alloc O).cell? ⟨x.g, k * 5 + 2, none⟩ = _ := fun O => ((ht _ (Sv.of_below (hb1 O))).1 k hkN).2.2.1
  have d3 : ∀ O, (w.alloc O).cell? ⟨x.g, k * 5 + 3, none⟩ = _ := fun O => ((ht _ (Sv.of_below (hb1 O))).1 k hkN).2.2.2.1
  have d4 : ∀ O, (w.alloc O).cell? ⟨x.g, k * 5 + 4, none⟩ = _ := fun O => ((ht _ (Sv.of_below (hb1 O))).1 k hkN).2.2.2.2
  obtain ⟨ad, c, hk1, hk2, hk3, hk4⟩ := Bx.kids hx ht k hkN
  obtain ⟨kl, hkl⟩ : ∃ kl, x.o.getD k [] = kl := ⟨_, rfl⟩
  rw [hkl] at hk4 hk1 hk3
  have k0 := hk4.now.1
  have k1 : ∀ O, (w.alloc O).cell? ⟨x.gk, k, none⟩ = _ := fun O => (hk4 _ (Sv.of_below (hb1 O))).1
  have HX := hid hx
  have HSn := hid hSn
  have HB1 := hid hb1
  have HA := hid h
  have HKL := hid hkl
  have HK4 := hid hk4
  have HK3 := hid hk3
  have HT := hid ht
  have HK := hid hk
  have hN5 := hx.N
  clear h hx ht hk hk4 hkl hk3 hb1 hSn
  go_enter Tryd.func51, Tryd.ntmps51
  go_wp2
  go_region
  have HN2 : Hid (NodeAt (w.alloc (.cells #[.int .i64 (x.nd k).kind, .int .i64 (x.nd k).op, .int .i64 (x.nd k).n, .string (x.nd k).text, .int .i64 (x.nd k).kids] 58)).drew w.heap.size (x.nd k)) := heap_alloc_new w _
  have HS2 : Hid (Sv x.S w (w.alloc (.cells #[.int .i64 (x.nd k).kind, .int .i64 (x.nd k).op, .int .i64 (x.nd k).n, .string (x.nd k).text, .int .i64 (x.nd k).kids] 58)).drew) := Sv.drew (w := w.alloc (.cells #[.int .i64 (x.nd k).kind, .int .i64 (x.nd k).op, .int .i64 (x.nd k).n, .string (x.nd k).text, .int .i64 (x.nd k).kids] 58)) (Sv.of_below (HB1.out _))
  have HA2 : Hid (x.At (w.alloc (.cells #[.int .i64 (x.nd k).kind, .int .i64 (x.nd k).op, .int .i64 (x.nd k).n, .string (x.nd k).text, .int .i64 (x.nd k).kids] 58)).drew bn p.1 p.2) := HA.out.go (HB1.out _).drew
  clear g0 g1 d0 d1 d2 d3 d4 k0 k1 c0 c1 c2 c3 c4 f0 f1 f2 f3 f4 f5 f6 HB1 HA
  generalize (w.alloc (.cells #[.int .i64 (x.nd k).kind, .int .i64 (x.nd k).op, .int .i64 (x.nd k).n, .string (x.nd k).text, .int .i64 (x.nd k).kids] 58)).drew = w2 at *
  have HT2 := hid (HT.out.go HS2.out)
  have HK2 := hid (HK.out.go HS2.out)
  obtain ⟨n0, n1, n2, n3, n4, _, _, _, _, _⟩ := HN2.out.cells
  obtain ⟨f0, f1, f2, f3, f4, f5, f6⟩ := HA2.out.five
  obtain ⟨hl200, hst⟩ := kids_file (HX.out.fit k hkN) H24.out
  have hpl := HX.out.place k
  rw [HKL.out] at hl200 hst hpl HEV
  have HST := hid hst
  have HPL := hid hpl
  clear hst hpl
  rw [H24.out] at n0
  go_wp2_with (first
    | (go_at_call 77; refine (file_any x HX.out kl HPL.out (by omega) kn ad c a bn p w2 (fun W hW => (HK4.out W (HS2.out.trans hW)).2) HA2.out HT2.out HK2.out).mono ?_; rintro e w4 ⟨b4, rfl, hkk, hb4⟩; have HKF := hid hkk; have HB4 := hid hb4; clear hkk hb4)
    | (go_at_call 73; refine (walkAll_of x kl _ (fun j kn => wk x.nd x.o j kn ++ mksE x.nd x.o j kn) (fun j hj => walk_st x HX.out j (HPL.out j hj) (HST.out j hj).2 _) ad c (some ⟨b4, 0, none⟩) bn p w4 (by omega) (fun W hW => (HK4.out W (HS2.out.trans ((Sv.of_below HB4.out).trans hW))).2) (HA2.out.go HB4.out) (HT2.out.go (Sv.of_below HB4.out)) HKF.out).mono ?_; rintro e w5 ⟨rfl, hen5⟩; have HE5 := hid hen5; clear hen5))
  go_end0
  rw [← HEV.out]
  exact ⟨rfl, ends_join (e1 := []) (HS2.out.trans (Sv.of_below HB4.out)) (fun _ => rfl) HE5.out⟩
end Go.Proofs.YtpobfklbbkdglaaDoor
