import Derived.Test.YtabefhpgeaihgaaDoorVDecI
import Derived.Shelf.Strconv.ParseIntPublic10
import Derived.Shelf.Strconv.Clone
import Derived.Lib.AppendIntMem
import Derived.Deep.DeepCutAuto
/-! num: the program's. Printed by gen_vnumi.py. -/
namespace Go.Proofs.YtabefhpgeaihgaaDoor.V
open Go.RowKit Go.Shelf
set_option maxRecDepth 20000
def pi_ren : Go.Shelf.Ren := ⟨fun | 129 => 74 | 171 => 81 | 174 => 42 | 205 => 80 | 243 => 84 | 245 => 54 | 246 => 52 | 247 => 53 | 279 => 69 | 280 => 70 | 281 => 71 | 282 => 72 | 283 => 64 | 284 => 65 | 285 => 66 | 286 => 67 | 287 => 68 | 316 => 46 | 317 => 73 | 318 => 75 | 319 => 76 | 320 => 77 | 321 => 78 | 322 => 79 | 337 => 82 | 338 => 83 | n => n, fun | 0 => 0 | 2 => 2 | 3 => 3 | 4 => 4 | 5 => 5 | 9 => 9 | 20 => 20 | 21 => 21 | 37 => 41 | 46 => 68 | 51 => 83 | 53 => 53 | 75 => 48 | 80 => 59 | 85 => 72 | 127 => 87 | 143 => 112 | 145 => 114 | 167 => 96 | 168 => 99 | 171 => 91 | 173 => 94 | 175 => 97 | 210 => 109 | 212 => 103 | 213 => 104 | 232 => 115 | 233 => 116 | n => n, fun | 15 => 6 | 16 => 7 | 17 => 5 | 18 => 8 | 19 => 9 | n => n⟩
theorem pi_lays : Go.Proofs.LaysC.n174 Tryd.prog pi_ren where
  mixed := by kernel_rfl
  f129 := Tryd.func74.trans (congrArg some (by kernel_rfl))
  f171 := Tryd.func81.trans (congrArg some (by kernel_rfl))
  f174 := Tryd.func42.trans (congrArg some (by kernel_rfl))
  f205 := Tryd.func80.trans (congrArg some (by kernel_rfl))
  f243 := Tryd.func84.trans (congrArg some (by kernel_rfl))
  f245 := Tryd.func54.trans (congrArg some (by kernel_rfl))
  f246 := Tryd.func52.trans (congrArg some (by kernel_rfl))
  f247 := Tryd.func53.trans (congrArg some (by kernel_rfl))
  f279 := Tryd.func69.trans (congrArg some (by kernel_rfl))
  f280 := Tryd.func70.trans (congrArg some (by kernel_rfl))
  f281 := Tryd.func71.trans (congrArg some (by kernel_rfl))
  f282 := Tryd.func72.trans (congrArg some (by kernel_rfl))
  f283 := Tryd.func64.trans (congrArg some (by kernel_rfl))
  f284 := Tryd.func65.trans (congrArg some (by kernel_rfl))
  f285 := Tryd.func66.trans (congrArg some (by kernel_rfl))
  f286 := Tryd.func67.trans (congrArg some (by kernel_rfl))
  f287 := Tryd.func68.trans (congrArg some (by kernel_rfl))
  f316 := Tryd.func46.trans (congrArg some (by kernel_rfl))
  f317 := Tryd.func73.trans (congrArg some (by kernel_rfl))
  f318 := Tryd.func75.trans (congrArg some (by kernel_rfl))
  f319 := Tryd.func76.trans (congrArg some (by kernel_rfl))
  f320 := Tryd.func77.trans (congrArg some (by kernel_rfl))
  f321 := Tryd.func78.trans (congrArg some (by kernel_rfl))
  f322 := Tryd.func79.trans (congrArg some (by kernel_rfl))
  f337 := Tryd.func82.trans (congrArg some (by kernel_rfl))
  f338 := Tryd.func83.trans (congrArg some (by kernel_rfl))
  t0 := Tryd.underlying0
  a0 := Tryd.isAgg0
  z0 := Tryd.sizeOf0
  v0 := Tryd.zeroValue0
  t2 := Tryd.underlying2
  a2 := Tryd.isAgg2
  z2 := Tryd.sizeOf2
  v2 := Tryd.zeroValue2
  t3 := Tryd.underlying3
  a3 := Tryd.isAgg3
  z3 := Tryd.sizeOf3
  v3 := Tryd.zeroValue3
  t4 := Tryd.underlying4
  a4 := Tryd.isAgg4
  z4 := Tryd.sizeOf4
  v4 := Tryd.zeroValue4
  t5 := Tryd.underlying5
  a5 := Tryd.isAgg5
  z5 := Tryd.sizeOf5
  v5 := Tryd.zeroValue5
  t9 := Tryd.underlying9
  a9 := Tryd.isAgg9
  z9 := Tryd.sizeOf9
  v9 := Tryd.zeroValue9
  t20 := Tryd.underlying20
  a20 := Tryd.isAgg20
  z20 := Tryd.sizeOf20
  v20 := Tryd.zeroValue20
  t21 := Tryd.underlying21
  a21 := Tryd.isAgg21
  z21 := Tryd.sizeOf21
  v21 := Tryd.zeroValue21
  t37 := Tryd.underlying41
  a37 := Tryd.isAgg41
  z37 := Tryd.sizeOf41
  v37 := Tryd.zeroValue41
  t46 := Tryd.underlying68
  a46 := Tryd.isAgg68
  z46 := Tryd.sizeOf68
  v46 := Tryd.zeroValue68
  t51 := Tryd.underlying83
  a51 := Tryd.isAgg83
  z51 := Tryd.sizeOf83
  v51 := Tryd.zeroValue83
  t53 := Tryd.underlying53
  a53 := Tryd.isAgg53
  z53 := Tryd.sizeOf53
  v53 := Tryd.zeroValue53
  t75 := Tryd.underlying48
  a75 := Tryd.isAgg48
  z75 := Tryd.sizeOf48
  v75 := Tryd.zeroValue48
  t85 := Tryd.underlying72
  a85 := Tryd.isAgg72
  z85 := Tryd.sizeOf72
  v85 := Tryd.zeroValue72
  t127 := Tryd.underlying87
  a127 := Tryd.isAgg87
  z127 := Tryd.sizeOf87
  v127 := Tryd.zeroValue87
  t143 := Tryd.underlying112
  a143 := Tryd.isAgg112
  z143 := Tryd.sizeOf112
  v143 := Tryd.zeroValue112
  t145 := Tryd.underlying114
  a145 := Tryd.isAgg114
  z145 := Tryd.sizeOf114
  v145 := Tryd.zeroValue114
  t167 := Tryd.underlying96
  a167 := Tryd.isAgg96
  z167 := Tryd.sizeOf96
  v167 := Tryd.zeroValue96
  t168 := Tryd.underlying99
  a168 := Tryd.isAgg99
  z168 := Tryd.sizeOf99
  v168 := Tryd.zeroValue99
  t171 := Tryd.underlying91
  a171 := Tryd.isAgg91
  z171 := Tryd.sizeOf91
  v171 := Tryd.zeroValue91
  t173 := Tryd.underlying94
  a173 := Tryd.isAgg94
  z173 := Tryd.sizeOf94
  v173 := Tryd.zeroValue94
  t175 := Tryd.underlying97
  a175 := Tryd.isAgg97
  z175 := Tryd.sizeOf97
  v175 := Tryd.zeroValue97
  t210 := Tryd.underlying109
  a210 := Tryd.isAgg109
  z210 := Tryd.sizeOf109
  v210 := Tryd.zeroValue109
  t212 := Tryd.underlying103
  a212 := Tryd.isAgg103
  z212 := Tryd.sizeOf103
  v212 := Tryd.zeroValue103
  t213 := Tryd.underlying104
  a213 := Tryd.isAgg104
  z213 := Tryd.sizeOf104
  t232 := Tryd.underlying115
  a232 := Tryd.isAgg115
  z232 := Tryd.sizeOf115
  v232 := Tryd.zeroValue115
  t233 := Tryd.underlying116
  a233 := Tryd.isAgg116
  z233 := Tryd.sizeOf116
  v233 := Tryd.zeroValue116
  g15 := by kernel_rfl
  g16 := by kernel_rfl
  g17 := by kernel_rfl
  g18 := by kernel_rfl
  g19 := by kernel_rfl
  t80 := Tryd.underlying59
  a80 := Tryd.isAgg59
  z80 := Tryd.sizeOf59
  v80 := Tryd.zeroValue59
  i0 := by kernel_rfl
  i2 := by kernel_rfl
  i3 := by kernel_rfl
  i4 := by kernel_rfl
  i5 := by kernel_rfl
  i9 := by kernel_rfl
  i20 := by kernel_rfl
  i21 := by kernel_rfl
  i37 := by kernel_rfl
  i46 := by kernel_rfl
  i51 := by kernel_rfl
  i53 := by kernel_rfl
  i75 := by kernel_rfl
  i80 := by kernel_rfl
  i85 := by kernel_rfl
  i127 := by kernel_rfl
  i143 := by kernel_rfl
  i145 := by kernel_rfl
  i167 := by kernel_rfl
  i168 := by kernel_rfl
  i171 := by kernel_rfl
  i173 := by kernel_rfl
  i175 := by kernel_rfl
  i210 := by kernel_rfl
  i212 := by kernel_rfl
  i232 := by kernel_rfl
  i233 := by kernel_rfl
  m15 := by kernel_rfl
  m16 := by kernel_rfl
  m17 := by kernel_rfl
  m18 := by kernel_rfl
  m19 := by kernel_rfl
  c0 := by kernel_rfl
  c2 := by kernel_rfl
  c3 := by kernel_rfl
  c4 := by kernel_rfl
  c5 := by kernel_rfl
  c9 := by kernel_rfl
  c20 := by kernel_rfl
  c21 := by kernel_rfl
  c37 := by kernel_rfl
  c46 := by kernel_rfl
  c51 := by kernel_rfl
  c53 := by kernel_rfl
  c75 := by kernel_rfl
  c80 := by kernel_rfl
  c85 := by kernel_rfl
  c127 := by kernel_rfl
  c143 := by kernel_rfl
  c145 := by kernel_rfl
  c167 := by kernel_rfl
  c168 := by kernel_rfl
  c171 := by kernel_rfl
  c173 := by kernel_rfl
  c175 := by kernel_rfl
  c210 := by kernel_rfl
  c212 := by kernel_rfl
  c213 := by kernel_rfl
  c232 := by kernel_rfl
  c233 := by kernel_rfl
/-- What strconv and strings read of package variables. -/
structure EnvN (W : World) : Prop where
  tab : Lib.TabIs Tryd.prog W "internal/strconv.uint64pow10" .u64 Lib.pow10Tab
  es : ∃ t p, W.cell? ⟨6, 0, none⟩ = some (.iface t p)
  er : ∃ t p, W.cell? ⟨7, 0, none⟩ = some (.iface t p)
  mx : ∃ m, W.cell? ⟨4, 0, none⟩ = some (.int .i64 m)
theorem EnvN.next {W V : World} (h : EnvN W) (hb : Below W.heap.size W V) : EnvN V := by
  obtain ⟨h1, ⟨t, p, h2⟩, ⟨t', p', h3⟩, ⟨m, h4⟩⟩ := h
  exact ⟨(Lib.tabBelow_of_tabIs h1) V hb, ⟨t, p, (hb.cell (p := ⟨6, 0, none⟩) (World.block_lt_of_cell? W _ h2)).trans h2⟩, ⟨t', p', (hb.cell (p := ⟨7, 0, none⟩) (World.block_lt_of_cell? W _ h3)).trans h3⟩, ⟨m, (hb.cell (p := ⟨4, 0, none⟩) (World.block_lt_of_cell? W _ h4)).trans h4⟩⟩
/-- What ParseInt ends with: a number, or an error. -/
def PIEnd (s : ByteArray) (w : World) (e : Ending) (w' : World) : Prop := Below w.heap.size w w' ∧
  ((∃ v, Lib.parseIntB 64 s.data.toList = .ok v ∧ e = .returned (.tuple #[.int .i64 v, .nilIface])) ∨
   ((∀ v, Lib.parseIntB 64 s.data.toList ≠ .ok v) ∧ ∃ (v : Int) (t : TypeId) (a : Addr), e = .returned (.tuple #[.int .i64 v, .iface t (.pointer (some a))])))
theorem parseInt_any (s : ByteArray) (hs : s.size ≤ 3000) (w : World) (hE : EnvN w) :
    Calls Tryd.prog 42 #[.string s, .int .i64 10, .int .i64 64] w fun e w' => PIEnd s w e w' := by
  cases h : Lib.parseIntB 64 s.data.toList with
  | ok v =>
    refine (Any.strconv_ParseInt_10_at64_ok pi_lays s (by omega) v h w).mono ?_
    rintro e w' ⟨rfl, hw⟩
    refine ⟨?_, .inl ⟨v, h, rfl⟩⟩
    rcases hw with rfl | ⟨t, rfl⟩
    · exact Below.refl _ _
    · exact Lib.bytesWorld_below _ _ _
  | «syntax» =>
    obtain ⟨t, p, e1⟩ := hE.es
    refine (Any.strconv_ParseInt_10_at64_syntax pi_lays s (by omega) h (.iface t p) w e1 (.inr ⟨t, p, rfl⟩)).mono ?_
    rintro e w' ⟨N, rfl, _, _, hb⟩
    exact ⟨hb, .inr ⟨fun v hv => (by rw [h] at hv; cases hv), _, _, _, rfl⟩⟩
  | range =>
    obtain ⟨t, p, e1⟩ := hE.er
    refine (Any.strconv_ParseInt_10_at64_range pi_lays s (by omega) h (.iface t p) w e1 (.inr ⟨t, p, rfl⟩)).mono ?_
    rintro e w' ⟨N, rfl, _, _, hb⟩
    exact ⟨hb, .inr ⟨fun v hv => (by rw [h] at hv; cases hv), _, _, _, rfl⟩⟩
/-- What num ends with. -/
def NumEnd (s : ByteArray) (p : Addr) (w : World) (e : Ending) (w' : World) : Prop := Below w.heap.size w w' ∧
  ((∃ n, Lib.itoa n = s.data.toList ∧ (-9223372036854775808 ≤ n ∧ n ≤ 9223372036854775807) ∧ e = .returned (.tuple #[val 10 n wNone, .nilIface])) ∨
   ((∀ m : Int, -9223372036854775808 ≤ m → m ≤ 9223372036854775807 → Lib.itoa m ≠ s.data.toList) ∧ e = .returned (.tuple #[val 0 0 wNone, errV p])))
set_option maxHeartbeats 8000000 in
theorem millNum_any (s : ByteArray) (hs : s.size ≤ 3000) (p : Addr) (x : ByteArray) (w : World) (hE : EnvN w) (he : ErrAt w 2 p x) :
    Calls Tryd.prog 33 #[.string s] w fun e w' => NumEnd s p w e w' := by
  have HE := hid hE
  have HX := hid he
  have HB2 := hid (alloc2 w (vbox 0 0 wNone) (vbox 10 0 wNone))
  have HG0 : Hid (((w.alloc (vbox 0 0 wNone)).alloc (vbox 10 0 wNone)).heap[w.heap.size]? = some (vbox 0 0 wNone)) := heap_old (heap_new w _)
  have HG1 : Hid (((w.alloc (vbox 0 0 wNone)).alloc (vbox 10 0 wNone)).heap[w.heap.size + 1]? = some (vbox 10 0 wNone)) := by
    have := heap_new (w.alloc (vbox 0 0 wNone)) (vbox 10 0 wNone)
    rwa [World.size_alloc] at this
  have hlg := he.lg
  clear hE he
  go_enter Tryd.func33, Tryd.ntmps33
  go_wp2_with fail
  refine (parseInt_any s hs _ (HE.out.next HB2.out)).mono ?_
  rintro e w3 ⟨hb3, hend⟩
  have HB3 := hid (HB2.out.trans (hb3.mono (by simp; omega)))
  have HK0 := hid (keep_box HG0.out hb3)
  have HK1 := hid (keep_box HG1.out hb3)
  obtain ⟨x0, x1, x2, y0, y1, y2⟩ := six HK1.out
  clear hb3 HG0 HG1 HB2
  have hn1 : ¬ w.heap.size = 2 := by omega
  have hn2 : ¬ 2 = w.heap.size := by omega
  rcases hend with ⟨v, hv, rfl⟩ | ⟨hno, v, t, a, rfl⟩
  · have HV := hid hv
    obtain ⟨v1, v2⟩ := int_bd hv
    clear hv
    go_upto_region 4 with fail
    have HQ0 : Hid ((w3.setCell ⟨w.heap.size + 1, 1, none⟩ (.int .i64 v)).heap[w.heap.size]? = some (vbox 0 0 wNone)) := (Below.heap_setCell _ _ _ _ (show w.heap.size ≠ w.heap.size + 1 by omega)).trans HK0.out
    have HQ1 := hid (setN_box HK1.out v)
    have HB4 := hid (set_below HB3.out (w.heap.size + 1) 1 (by omega) (.int .i64 v))
    obtain ⟨W4, hW4⟩ : ∃ W, w3.setCell ⟨w.heap.size + 1, 1, none⟩ (.int .i64 v) = W := ⟨_, rfl⟩
    rw [hW4] at HQ0 HQ1 HB4 ⊢
    clear hW4 x0 x1 x2 y0 y1 y2 HK0 HK1
    obtain ⟨x0, x1, x2, _, _, _⟩ := six HQ1.out
    have HD : Hid (∀ V, Below w.heap.size w V → Calls Tryd.prog 32 #[val 10 v wNone] V fun e w' => e = .returned (.string ⟨(Lib.itoa v).toArray⟩) ∧ Below V.heap.size V w') := fun V hV => by
      have := millDec_any 10 v wNone (by decide) (by decide) (by show v = IntKind.i64.wrap (IntKind.i64.wrap v); simp only [IntKind.wrap_i64]; omega) V (HE.out.next hV).tab
      rwa [decT_int (by decide) (by decide) (by decide) (by show v = IntKind.i64.wrap (IntKind.i64.wrap v); simp only [IntKind.wrap_i64]; omega)] at this
    obtain ⟨S, hS⟩ : ∃ S : ByteArray, ⟨(Lib.itoa v).toArray⟩ = S := ⟨_, rfl⟩
    have HEQ : Hid ((S.toList == s.toList) = (Lib.itoa v == s.data.toList)) := by rw [← hS]; show (_ == _) = _; rw [Lib.toList_data, Lib.toList_data]
    rw [hS] at HD
    clear hS
    go_wp2_with fail
    refine (HD.out _ HB4.out).mono ?_
    rintro e w5 ⟨rfl, hb5⟩
    have HB5 := hid (HB4.out.trans (hb5.mono HB4.out.size))
    have HK0 := hid (keep_box HQ0.out hb5)
    have HK1 := hid (keep_box HQ1.out hb5)
    clear hb5 x0 x1 x2
    obtain ⟨r0, r1, r2, f0, f1, f2⟩ := six HK0.out
    obtain ⟨x0, x1, x2, _, _, _⟩ := six HK1.out
    cases hq : (S.toList == s.toList) with
    | true =>
      have hq2 : (S.toList != s.toList) = false := by simp only [bne, hq]; rfl
      have HQ : Hid (Lib.itoa v = s.data.toList) := by have := HEQ.out; rw [hq] at this; exact eq_of_beq this.symm
      go_wp2
      exact bodyPost_ret (v := .tuple #[val 10 v wNone, .nilIface]) (by simp [results, Tryd.results33, go_sem, r0, r1, r2]) rfl ⟨setr (Nat.le_refl _) HB5.out _ _ _, .inl ⟨v, HQ.out, ⟨v1, v2⟩, rfl⟩⟩
    | false =>
      have hq2 : (S.toList != s.toList) = true := by simp only [bne, hq]; rfl
      have HQ : Hid (∀ m : Int, -9223372036854775808 ≤ m → m ≤ 9223372036854775807 → Lib.itoa m ≠ s.data.toList) := fun m m1 m2 e => by
        have h1 := HV.out
        rw [← e, int_itoa m m1 m2] at h1
        injection h1 with h1
        subst h1
        have := HEQ.out
        rw [hq, e] at this
        simp at this
      have g0 := (HX.out.next HB5.out).glob
      go_wp2
      go_region
      go_wp2
      exact bodyPost_ret (v := .tuple #[val 0 0 wNone, errV p]) (by simp [results, Tryd.results33, go_sem, r0, r1, r2]) rfl ⟨(setr (Nat.le_refl _) HB5.out _ _ _).drew, .inr ⟨HQ.out, rfl⟩⟩
  · have HQ : Hid (∀ m : Int, -9223372036854775808 ≤ m → m ≤ 9223372036854775807 → Lib.itoa m ≠ s.data.toList) := fun m m1 m2 e => hno m (by rw [← e]; exact int_itoa m m1 m2)
    clear hno
    go_upto_region 5 with fail
    have HQ0 : Hid ((w3.setCell ⟨w.heap.size + 1, 1, none⟩ (.int .i64 v)).heap[w.heap.size]? = some (vbox 0 0 wNone)) := (Below.heap_setCell _ _ _ _ (show w.heap.size ≠ w.heap.size + 1 by omega)).trans HK0.out
    have HB4 := hid (set_below HB3.out (w.heap.size + 1) 1 (by omega) (.int .i64 v))
    obtain ⟨W4, hW4⟩ : ∃ W, w3.setCell ⟨w.heap.size + 1, 1, none⟩ (.int .i64 v) = W := ⟨_, rfl⟩
    rw [hW4] at HQ0 HB4 ⊢
    clear hW4 x0 x1 x2 y0 y1 y2 HK0 HK1
    obtain ⟨r0, r1, r2, f0, f1, f2⟩ := six HQ0.out
    have g0 := (HX.out.next HB4.out).glob
    go_region
    go_wp2
    exact bodyPost_ret (v := .tuple #[val 0 0 wNone, errV p]) (by simp [results, Tryd.results33, go_sem, r0, r1, r2]) rfl ⟨(setr (Nat.le_refl _) HB4.out _ _ _).drew, .inr ⟨HQ.out, rfl⟩⟩
end Go.Proofs.YtabefhpgeaihgaaDoor.V
