import Derived.OwnWalk
import Derived.Test.YtfndbnbnimhnaaaGreatDoorJ13
import Derived.Test.YtfndbnbnimhnaaaGreatDoorJ14
/-! What an instruction gives, in the model: operation 14. -/
namespace Go.Proofs.YtfndbnbnimhnaaaGreatDoor.C
open Go.RowKit
set_option maxRecDepth 20000
set_option maxHeartbeats 1000000 in
theorem gives_14 (fns : List Fn) (f : Fn) (a : Int) (n : Int) (tx : ByteArray) (sl sk : List Int) (w : World) (cv pv iv av bv : Value) (h1 : FnsRow w cv fns) (h2 : IntRow w pv f.params) (h3 : InsRow w iv f.ins) (h4 : IntRow w av sl) (h5 : IntRow w bv sk) (hn : sk.length ≤ 1000) :
    Calls Tryz.prog 91 #[.agg #[cv], .agg #[.string f.name, pv, .int .i64 f.result, .int .i64 f.slots, iv], .agg #[.int .i64 14, .int .i64 a, .int .i64 n, .string tx], .agg #[.int .i64 1, av, bv]] w (GvEnd fns f ⟨14, a, n, tx⟩ sl sk w) := by
  obtain ⟨adA, cA, rfl⟩ := h4.sl
  obtain ⟨adB, cB, rfl⟩ := h5.sl
  have HX := hid (boxes (i := ⟨14, a, n, tx⟩) h1 h2 h3 h4 h5)
  have HTK : Hid (takesN fns ⟨14, a, n, tx⟩ = 2) := hid (by simp [takesN])
  have HEF : Hid (∀ tk, eff fns f ⟨14, a, n, tx⟩ sl tk = whn (tk.getD 0 0 = 2 ∧ tk.getD 1 0 = 2) []) := hid (by intro tk; simp [eff, whn])
  clear h1 h2 h3 h4 h5
  go_enter Tryz.func91, Tryz.ntmps91
  go_upto_region 1 with fail
  obtain ⟨W, hW⟩ : ∃ W, ((((w.alloc (.cells #[cv] 29)).alloc (.cells #[.string f.name, pv, .int .i64 f.result, .int .i64 f.slots, iv] 57)).alloc (.cells #[.int .i64 14, .int .i64 a, .int .i64 n, .string tx] 84)).alloc (.cells #[.int .i64 1, .slice adA sl.length cA, .slice adB sk.length cB] 125)) = W := ⟨_, rfl⟩
  have HX2 : Hid _ := hid (hW ▸ HX.out)
  rw [hW]
  clear hW HX
  have x0 := HX2.out.i0
  have x1 := HX2.out.i1
  have y1 := HX2.out.s1
  have y2 := HX2.out.s2
  go_upto_if 26 with fail
  go_cut [12] (fun v wx => v = .int .i64 (tp sk) ∧ wx = W)
  case first =>
    by_cases hp : 0 < sk.length
    · obtain ⟨g, c, e9, _, _, _, hc⟩ := HX2.out.sk_.at hp
      injection e9 with ea _ ec
      subst ea ec
      have hpi : (0 : Int) < (sk.length : Int) := by omega
      have hwr : IntKind.i64.wrap ((sk.length : Int) - 1) = ((sk.length - 1 : Nat) : Int) := by rw [IntKind.wrap_i64]; omega
      have hlt : ((sk.length - 1 : Nat) : Int) < (sk.length : Int) := by omega
      have hct := hc (sk.length - 1) (by omega)
      rw [tp_at hp] at hct
      clear hc
      go_wp2_with fail
      go_meet
      case rel => exact ⟨rfl, rfl⟩
    · have hpi : ¬ (0 : Int) < (sk.length : Int) := by omega
      have HT := hid (tp_none hp)
      clear hp
      go_wp2_with fail
      go_meet
      case rel => exact ⟨by rw [HT.out], rfl⟩
  case rest =>
    obtain ⟨rfl, rfl⟩ := hcut
    go_upto_if 34 with fail
    go_cut [13] (fun v wx => v = .int .i64 (bw sk) ∧ wx = wc)
    case first =>
      by_cases hp : 1 < sk.length
      · obtain ⟨g, c, e9, _, _, _, hc⟩ := HX2.out.sk_.at (i := 0) (by omega)
        injection e9 with ea _ ec
        subst ea ec
        have hpi : (1 : Int) < (sk.length : Int) := by omega
        have hwr : IntKind.i64.wrap ((sk.length : Int) - 2) = ((sk.length - 2 : Nat) : Int) := by rw [IntKind.wrap_i64]; omega
        have hlt : ((sk.length - 2 : Nat) : Int) < (sk.length : Int) := by omega
        have hct := hc (sk.length - 2) (by omega)
        rw [bw_at hp] at hct
        clear hc
        go_wp2_with fail
        go_meet
        case rel => exact ⟨rfl, rfl⟩
      · have hpi : ¬ (1 : Int) < (sk.length : Int) := by omega
        have HT := hid (bw_none hp)
        clear hp
        go_wp2_with fail
        go_meet
        case rel => exact ⟨by rw [HT.out], rfl⟩
    case rest =>
      obtain ⟨rfl, hwc⟩ := hcut
      subst hwc
      by_cases ht : tp sk = 2
      · have HT := hid ht
        have htf : (tp sk == 2) = true := by simpa using ht
        clear ht
        by_cases hb : bw sk = 2
        · have HB := hid hb
          have hbf : (bw sk == 2) = true := by simpa using hb
          have HP : Hid (2 ≤ sk.length) := hid (Decidable.byContradiction fun h => by have := bw_none (sk := sk) (by omega); omega)
          clear hb
          go_wp2
          go_ret3
          exact gv_ok (k := 2) (by first | exact HX2.out.lo.alloc HX2.out.lo.size _ | exact (HX2.out.lo.alloc HX2.out.lo.size _).drew) (by decide) HTK.out.symm HP.out (by rw [HEF.out, HTK.out, (drop2 HP.out).1, (drop2 HP.out).2, HT.out, HB.out]; rfl) (by first | exact row0 _ | exact (row0 _).next (Below.refl _ _).drew)
        · have HB := hid hb
          have hbf : (bw sk == 2) = false := by simpa using hb
          clear hb
          go_wp2
          go_ret3
          exact gv_bad (k := 2) (by first | exact HX2.out.lo.alloc HX2.out.lo.size _ | exact (HX2.out.lo.alloc HX2.out.lo.size _).drew) (by decide) (.inl rfl) (fun h => by rw [HTK.out] at h; rw [HEF.out, HTK.out, (drop2 h).1, (drop2 h).2]; exact if_neg fun k => HB.out k.1)
      · have HT := hid ht
        have htf : (tp sk == 2) = false := by simpa using ht
        clear ht
        go_wp2
        go_ret3
        exact gv_bad (k := 2) (by first | exact HX2.out.lo.alloc HX2.out.lo.size _ | exact (HX2.out.lo.alloc HX2.out.lo.size _).drew) (by decide) (.inl rfl) (fun h => by rw [HTK.out] at h; rw [HEF.out, HTK.out, (drop2 h).1, (drop2 h).2]; exact if_neg fun k => HT.out k.2)
end Go.Proofs.YtfndbnbnimhnaaaGreatDoor.C
/-! What an instruction gives, in the model: operation 3. -/
namespace Go.Proofs.YtfndbnbnimhnaaaGreatDoor.C
open Go.RowKit
set_option maxRecDepth 20000
set_option maxHeartbeats 1000000 in
theorem gives_3 (fns : List Fn) (f : Fn) (a : Int) (n : Int) (tx : ByteArray) (sl sk : List Int) (w : World) (cv pv iv av bv : Value) (h1 : FnsRow w cv fns) (h2 : IntRow w pv f.params) (h3 : InsRow w iv f.ins) (h4 : IntRow w av sl) (h5 : IntRow w bv sk) (hn : sk.length ≤ 1000) :
    Calls Tryz.prog 91 #[.agg #[cv], .agg #[.string f.name, pv, .int .i64 f.result, .int .i64 f.slots, iv], .agg #[.int .i64 3, .int .i64 a, .int .i64 n, .string tx], .agg #[.int .i64 1, av, bv]] w (GvEnd fns f ⟨3, a, n, tx⟩ sl sk w) := by
  obtain ⟨adA, cA, rfl⟩ := h4.sl
  obtain ⟨adB, cB, rfl⟩ := h5.sl
  have HX := hid (boxes (i := ⟨3, a, n, tx⟩) h1 h2 h3 h4 h5)
  have HTK : Hid (takesN fns ⟨3, a, n, tx⟩ = 1) := hid (by simp [takesN])
  have HEF : Hid (∀ tk, eff fns f ⟨3, a, n, tx⟩ sl tk = some []) := hid (by intro tk; simp [eff])
  clear h1 h2 h3 h4 h5
  go_enter Tryz.func91, Tryz.ntmps91
  go_upto_region 1 with fail
  obtain ⟨W, hW⟩ : ∃ W, ((((w.alloc (.cells #[cv] 29)).alloc (.cells #[.string f.name, pv, .int .i64 f.result, .int .i64 f.slots, iv] 57)).alloc (.cells #[.int .i64 3, .int .i64 a, .int .i64 n, .string tx] 84)).alloc (.cells #[.int .i64 1, .slice adA sl.length cA, .slice adB sk.length cB] 125)) = W := ⟨_, rfl⟩
  have HX2 : Hid _ := hid (hW ▸ HX.out)
  rw [hW]
  clear hW HX
  have x0 := HX2.out.i0
  have x1 := HX2.out.i1
  have y1 := HX2.out.s1
  have y2 := HX2.out.s2
  go_upto_if 26 with fail
  go_cut [12] (fun v wx => v = .int .i64 (tp sk) ∧ wx = W)
  case first =>
    by_cases hp : 0 < sk.length
    · obtain ⟨g, c, e9, _, _, _, hc⟩ := HX2.out.sk_.at hp
      injection e9 with ea _ ec
      subst ea ec
      have hpi : (0 : Int) < (sk.length : Int) := by omega
      have hwr : IntKind.i64.wrap ((sk.length : Int) - 1) = ((sk.length - 1 : Nat) : Int) := by rw [IntKind.wrap_i64]; omega
      have hlt : ((sk.length - 1 : Nat) : Int) < (sk.length : Int) := by omega
      have hct := hc (sk.length - 1) (by omega)
      rw [tp_at hp] at hct
      clear hc
      go_wp2_with fail
      go_meet
      case rel => exact ⟨rfl, rfl⟩
    · have hpi : ¬ (0 : Int) < (sk.length : Int) := by omega
      have HT := hid (tp_none hp)
      clear hp
      go_wp2_with fail
      go_meet
      case rel => exact ⟨by rw [HT.out], rfl⟩
  case rest =>
    obtain ⟨rfl, rfl⟩ := hcut
    go_upto_if 34 with fail
    go_cut [13] (fun v wx => v = .int .i64 (bw sk) ∧ wx = wc)
    case first =>
      by_cases hp : 1 < sk.length
      · obtain ⟨g, c, e9, _, _, _, hc⟩ := HX2.out.sk_.at (i := 0) (by omega)
        injection e9 with ea _ ec
        subst ea ec
        have hpi : (1 : Int) < (sk.length : Int) := by omega
        have hwr : IntKind.i64.wrap ((sk.length : Int) - 2) = ((sk.length - 2 : Nat) : Int) := by rw [IntKind.wrap_i64]; omega
        have hlt : ((sk.length - 2 : Nat) : Int) < (sk.length : Int) := by omega
        have hct := hc (sk.length - 2) (by omega)
        rw [bw_at hp] at hct
        clear hc
        go_wp2_with fail
        go_meet
        case rel => exact ⟨rfl, rfl⟩
      · have hpi : ¬ (1 : Int) < (sk.length : Int) := by omega
        have HT := hid (bw_none hp)
        clear hp
        go_wp2_with fail
        go_meet
        case rel => exact ⟨by rw [HT.out], rfl⟩
    case rest =>
      obtain ⟨rfl, hwc⟩ := hcut
      subst hwc
      by_cases hp : 0 < sk.length
      · have hpi : (0 : Int) < (sk.length : Int) := by omega
        go_wp2
        go_ret3
        exact gv_ok (k := 1) (by first | exact HX2.out.lo.alloc HX2.out.lo.size _ | exact (HX2.out.lo.alloc HX2.out.lo.size _).drew) (by decide) HTK.out.symm (by omega) (HEF.out _) (by first | exact row0 _ | exact (row0 _).next (Below.refl _ _).drew)
      · have hpi : ¬ (0 : Int) < (sk.length : Int) := by omega
        go_wp2
        go_ret3
        exact gv_bad (k := 1) (by first | exact HX2.out.lo.alloc HX2.out.lo.size _ | exact (HX2.out.lo.alloc HX2.out.lo.size _).drew) (by decide) (.inl rfl) (fun h => by rw [HTK.out] at h; omega)
end Go.Proofs.YtfndbnbnimhnaaaGreatDoor.C
/-! Where two shapes come together, in the model: where one is not known. -/
namespace Go.Proofs.YtfndbnbnimhnaaaGreatDoor.C
open Go.RowKit
set_option maxRecDepth 20000
def JoinEnd (a b : Sh) (w : World) (e : Ending) (w' : World) : Prop := ∃ v ch, e = .returned (.tuple #[v, .bool ch]) ∧ ShV w' v (join a b) ∧ (ch = true ↔ ¬ join a b = a) ∧ Below w.heap.size w w'
def shV (st : Int) (x y : Value) : Value := .agg #[.int .i64 st, x, y]
theorem al3 (w : World) (a b c : Obj) : Below w.heap.size w (((w.alloc a).alloc b).alloc c) := by
  have h1 := (Below.refl w.heap.size w).alloc (Nat.le_refl _) a
  have h2 := h1.alloc (by simp) b
  exact h2.alloc (by simp; omega) c
theorem join_top2 {S : Nat} {a b : Sh} (ha : OkSh S a) (h : a.st = 2) : join a b = a := by
  rcases ha with rfl | rfl | h1
  · simp [bot] at h
  · simp [join, top]
  · omega
theorem join_bot {a b : Sh} (h : a.st = 0) : join a b = b := by simp [join, h]
theorem join_top1 {S : Nat} {a b : Sh} (hb : OkSh S b) (h1 : a.st = 1) (h : b.st = 2) : join a b = b := by
  rcases hb with rfl | rfl | h2
  · simp [bot] at h
  · simp [join, top, h1]
  · omega
set_option maxHeartbeats 1000000 in
theorem join_first {S : Nat} {a b : Sh} (ha : OkSh S a) (h0 : ¬ b.st = 0) (h2 : a.st = 2) (w : World) (x y x' y' : Value) (h4 : IntRow w x a.sl) (h5 : IntRow w y a.sk) (h6 : IntRow w x' b.sl) (h7 : IntRow w y' b.sk) :
    Calls Tryz.prog 90 #[shV a.st x y, shV b.st x' y'] w (JoinEnd a b w) := by
  have HJ := hid (join_top2 (b := b) ha h2)
  have H4 := hid h4
  have H5 := hid h5
  have H2 := hid h2
  obtain ⟨a1, c1, rfl⟩ := h4.sl
  obtain ⟨a2, c2, rfl⟩ := h5.sl
  obtain ⟨a3, c3, rfl⟩ := h6.sl
  obtain ⟨a4, c4, rfl⟩ := h7.sl
  unfold shV
  rw [h2]
  have hbf : ((b.st : Int) == 0) = false := by simpa using h0
  clear ha h0 h2 h4 h5 h6 h7
  go_enter Tryz.func90, Tryz.ntmps90
  go_wp2
  refine bodyPost_ret (v := .tuple #[.agg #[.int .i64 2, .slice a1 a.sl.length c1, .slice a2 a.sk.length c2], .bool false]) (by simp [results, Tryz.results90, go_sem]) rfl ⟨_, _, rfl, ?_, ?_, al3 _ _ _ _⟩
  · rw [HJ.out]
    exact ⟨_, _, by rw [H2.out]; rfl, H4.out.next (al3 _ _ _ _), H5.out.next (al3 _ _ _ _)⟩
  · simp [HJ.out]
set_option maxHeartbeats 1000000 in
theorem join_second0 {a b : Sh} (h0 : ¬ b.st = 0) (h2 : a.st = 0) (w : World) (x y x' y' : Value) (h4 : IntRow w x a.sl) (h5 : IntRow w y a.sk) (h6 : IntRow w x' b.sl) (h7 : IntRow w y' b.sk) :
    Calls Tryz.prog 90 #[shV a.st x y, shV b.st x' y'] w (JoinEnd a b w) := by
  have HJ := hid (join_bot (b := b) h2)
  have HN : Hid (¬ b = a) := hid (fun e => h0 (by rw [e]; exact h2))
  have H6 := hid h6
  have H7 := hid h7
  obtain ⟨a1, c1, rfl⟩ := h4.sl
  obtain ⟨a2, c2, rfl⟩ := h5.sl
  obtain ⟨a3, c3, rfl⟩ := h6.sl
  obtain ⟨a4, c4, rfl⟩ := h7.sl
  unfold shV
  rw [h2]
  have hbf : ((b.st : Int) == 0) = false := by simpa using h0
  clear h0 h2 h4 h5 h6 h7
  go_enter Tryz.func90, Tryz.ntmps90
  go_wp2
  refine bodyPost_ret (v := .tuple #[.agg #[.int .i64 b.st, .slice a3 b.sl.length c3, .slice a4 b.sk.length c4], .bool true]) (by simp [results, Tryz.results90, go_sem]) rfl ⟨_, _, rfl, ?_, ?_, al3 _ _ _ _⟩
  · rw [HJ.out]
    exact ⟨_, _, rfl, H6.out.next (al3 _ _ _ _), H7.out.next (al3 _ _ _ _)⟩
  · simp [HJ.out, HN.out]
set_option maxHeartbeats 1000000 in
theorem join_second1 {S : Nat} {a b : Sh} (hb : OkSh S b) (h0 : b.st = 2) (h2 : a.st = 1) (w : World) (x y x' y' : Value) (h4 : IntRow w x a.sl) (h5 : IntRow w y a.sk) (h6 : IntRow w x' b.sl) (h7 : IntRow w y' b.sk) :
    Calls Tryz.prog 90 #[shV a.st x y, shV b.st x' y'] w (JoinEnd a b w) := by
  have HJ := hid (join_top1 (a := a) hb h2 h0)
  have HN : Hid (¬ b = a) := hid (fun e => by rw [e] at h0; omega)
  have H0 := hid h0
  have H6 := hid h6
  have H7 := hid h7
  obtain ⟨a1, c1, rfl⟩ := h4.sl
  obtain ⟨a2, c2, rfl⟩ := h5.sl
  obtain ⟨a3, c3, rfl⟩ := h6.sl
  obtain ⟨a4, c4, rfl⟩ := h7.sl
  unfold shV
  rw [h2, h0]
  clear hb h0 h2 h4 h5 h6 h7
  go_enter Tryz.func90, Tryz.ntmps90
  go_wp2
  refine bodyPost_ret (v := .tuple #[.agg #[.int .i64 2, .slice a3 b.sl.length c3, .slice a4 b.sk.length c4], .bool true]) (by simp [results, Tryz.results90, go_sem]) rfl ⟨_, _, rfl, ?_, ?_, al3 _ _ _ _⟩
  · rw [HJ.out]
    exact ⟨_, _, by rw [H0.out]; rfl, H6.out.next (al3 _ _ _ _), H7.out.next (al3 _ _ _ _)⟩
  · simp [HJ.out, HN.out]
end Go.Proofs.YtfndbnbnimhnaaaGreatDoor.C
