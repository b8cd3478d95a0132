import Derived.Shelf.Strconv.ParseIntPublic10
import Derived.Shelf.Strconv.Clone
import Derived.Lib.AppendIntMem
import Derived.Deep.DeepCutAuto
import Derived.Test.YtabefhpgeaihgaaGreatDoorJ33
/-! num: the program's. Printed by gen_vnumi.py. -/
namespace Go.Proofs.YtabefhpgeaihgaaGreatDoor.V
open Go.RowKit Go.Shelf
set_option maxRecDepth 20000
def pi_ren : Go.Shelf.Ren := ⟨fun | 129 => 125 | 171 => 132 | 174 => 70 | 205 => 131 | 243 => 135 | 245 => 99 | 246 => 97 | 247 => 98 | 279 => 118 | 280 => 119 | 281 => 120 | 282 => 121 | 283 => 113 | 284 => 114 | 285 => 115 | 286 => 116 | 287 => 117 | 316 => 91 | 317 => 124 | 318 => 126 | 319 => 127 | 320 => 128 | 321 => 129 | 322 => 130 | 337 => 133 | 338 => 134 | n => n, fun | 0 => 0 | 2 => 2 | 3 => 3 | 4 => 4 | 5 => 5 | 9 => 9 | 20 => 20 | 21 => 21 | 37 => 22 | 46 => 43 | 51 => 66 | 53 => 40 | 75 => 47 | 80 => 57 | 85 => 88 | 127 => 124 | 143 => 160 | 145 => 162 | 167 => 142 | 168 => 144 | 171 => 137 | 173 => 140 | 175 => 106 | 210 => 157 | 212 => 151 | 213 => 152 | 232 => 163 | 233 => 164 | n => n, fun | 15 => 8 | 16 => 9 | 17 => 7 | 18 => 10 | 19 => 11 | n => n⟩
theorem pi_lays : Go.Proofs.LaysC.n174 Tryz.prog pi_ren where
  mixed := by kernel_rfl
  f129 := Tryz.func125.trans (congrArg some (by kernel_rfl))
  f171 := Tryz.func132.trans (congrArg some (by kernel_rfl))
  f174 := Tryz.func70.trans (congrArg some (by kernel_rfl))
  f205 := Tryz.func131.trans (congrArg some (by kernel_rfl))
  f243 := Tryz.func135.trans (congrArg some (by kernel_rfl))
  f245 := Tryz.func99.trans (congrArg some (by kernel_rfl))
  f246 := Tryz.func97.trans (congrArg some (by kernel_rfl))
  f247 := Tryz.func98.trans (congrArg some (by kernel_rfl))
  f279 := Tryz.func118.trans (congrArg some (by kernel_rfl))
  f280 := Tryz.func119.trans (congrArg some (by kernel_rfl))
  f281 := Tryz.func120.trans (congrArg some (by kernel_rfl))
  f282 := Tryz.func121.trans (congrArg some (by kernel_rfl))
  f283 := Tryz.func113.trans (congrArg some (by kernel_rfl))
  f284 := Tryz.func114.trans (congrArg some (by kernel_rfl))
  f285 := Tryz.func115.trans (congrArg some (by kernel_rfl))
  f286 := Tryz.func116.trans (congrArg some (by kernel_rfl))
  f287 := Tryz.func117.trans (congrArg some (by kernel_rfl))
  f316 := Tryz.func91.trans (congrArg some (by kernel_rfl))
  f317 := Tryz.func124.trans (congrArg some (by kernel_rfl))
  f318 := Tryz.func126.trans (congrArg some (by kernel_rfl))
  f319 := Tryz.func127.trans (congrArg some (by kernel_rfl))
  f320 := Tryz.func128.trans (congrArg some (by kernel_rfl))
  f321 := Tryz.func129.trans (congrArg some (by kernel_rfl))
  f322 := Tryz.func130.trans (congrArg some (by kernel_rfl))
  f337 := Tryz.func133.trans (congrArg some (by kernel_rfl))
  f338 := Tryz.func134.trans (congrArg some (by kernel_rfl))
  t0 := Tryz.underlying0
  a0 := Tryz.isAgg0
  z0 := Tryz.sizeOf0
  v0 := Tryz.zeroValue0
  t2 := Tryz.underlying2
  a2 := Tryz.isAgg2
  z2 := Tryz.sizeOf2
  v2 := Tryz.zeroValue2
  t3 := Tryz.underlying3
  a3 := Tryz.isAgg3
  z3 := Tryz.sizeOf3
  v3 := Tryz.zeroValue3
  t4 := Tryz.underlying4
  a4 := Tryz.isAgg4
  z4 := Tryz.sizeOf4
  v4 := Tryz.zeroValue4
  t5 := Tryz.underlying5
  a5 := Tryz.isAgg5
  z5 := Tryz.sizeOf5
  v5 := Tryz.zeroValue5
  t9 := Tryz.underlying9
  a9 := Tryz.isAgg9
  z9 := Tryz.sizeOf9
  v9 := Tryz.zeroValue9
  t20 := Tryz.underlying20
  a20 := Tryz.isAgg20
  z20 := Tryz.sizeOf20
  v20 := Tryz.zeroValue20
  t21 := Tryz.underlying21
  a21 := Tryz.isAgg21
  z21 := Tryz.sizeOf21
  v21 := Tryz.zeroValue21
  t37 := Tryz.underlying22
  a37 := Tryz.isAgg22
  z37 := Tryz.sizeOf22
  v37 := Tryz.zeroValue22
  t46 := Tryz.underlying43
  a46 := Tryz.isAgg43
  z46 := Tryz.sizeOf43
  v46 := Tryz.zeroValue43
  t51 := Tryz.underlying66
  a51 := Tryz.isAgg66
  z51 := Tryz.sizeOf66
  v51 := Tryz.zeroValue66
  t53 := Tryz.underlying40
  a53 := Tryz.isAgg40
  z53 := Tryz.sizeOf40
  v53 := Tryz.zeroValue40
  t75 := Tryz.underlying47
  a75 := Tryz.isAgg47
  z75 := Tryz.sizeOf47
  v75 := Tryz.zeroValue47
  t85 := Tryz.underlying88
  a85 := Tryz.isAgg88
  z85 := Tryz.sizeOf88
  v85 := Tryz.zeroValue88
  t127 := Tryz.underlying124
  a127 := Tryz.isAgg124
  z127 := Tryz.sizeOf124
  v127 := Tryz.zeroValue124
  t143 := Tryz.underlying160
  a143 := Tryz.isAgg160
  z143 := Tryz.sizeOf160
  v143 := Tryz.zeroValue160
  t145 := Tryz.underlying162
  a145 := Tryz.isAgg162
  z145 := Tryz.sizeOf162
  v145 := Tryz.zeroValue162
  t167 := Tryz.underlying142
  a167 := Tryz.isAgg142
  z167 := Tryz.sizeOf142
  v167 := Tryz.zeroValue142
  t168 := Tryz.underlying144
  a168 := Tryz.isAgg144
  z168 := Tryz.sizeOf144
  v168 := Tryz.zeroValue144
  t171 := Tryz.underlying137
  a171 := Tryz.isAgg137
  z171 := Tryz.sizeOf137
  v171 := Tryz.zeroValue137
  t173 := Tryz.underlying140
  a173 := Tryz.isAgg140
  z173 := Tryz.sizeOf140
  v173 := Tryz.zeroValue140
  t175 := Tryz.underlying106
  a175 := Tryz.isAgg106
  z175 := Tryz.sizeOf106
  v175 := Tryz.zeroValue106
  t210 := Tryz.underlying157
  a210 := Tryz.isAgg157
  z210 := Tryz.sizeOf157
  v210 := Tryz.zeroValue157
  t212 := Tryz.underlying151
  a212 := Tryz.isAgg151
  z212 := Tryz.sizeOf151
  v212 := Tryz.zeroValue151
  t213 := Tryz.underlying152
  a213 := Tryz.isAgg152
  z213 := Tryz.sizeOf152
  t232 := Tryz.underlying163
  a232 := Tryz.isAgg163
  z232 := Tryz.sizeOf163
  v232 := Tryz.zeroValue163
  t233 := Tryz.underlying164
  a233 := Tryz.isAgg164
  z233 := Tryz.sizeOf164
  v233 := Tryz.zeroValue164
  g15 := by kernel_rfl
  g16 := by kernel_rfl
  g17 := by kernel_rfl
  g18 := by kernel_rfl
  g19 := by kernel_rfl
  t80 := Tryz.underlying57
  a80 := Tryz.isAgg57
  z80 := Tryz.sizeOf57
  v80 := Tryz.zeroValue57
  i0 := by kernel_rfl
  i2 := by kernel_rfl
  i3 := by kernel_rfl
  i4 := by kernel_rfl
  i5 := by kernel_rfl
  i9 := by kernel_rfl
  i20 := by kernel_rfl
  i21 := by kernel_rfl
  i37 := by kernel_rfl
  i46 := by kernel_rfl
  i51 := by kernel_rfl
  i53 := by kernel_rfl
  i75 := by kernel_rfl
  i80 := by kernel_rfl
  i85 := by kernel_rfl
  i127 := by kernel_rfl
  i143 := by kernel_rfl
  i145 := by kernel_rfl
  i167 := by kernel_rfl
  i168 := by kernel_rfl
  i171 := by kernel_rfl
  i173 := by kernel_rfl
  i175 := by kernel_rfl
  i210 := by kernel_rfl
  i212 := by kernel_rfl
  i232 := by kernel_rfl
  i233 := by kernel_rfl
  m15 := by kernel_rfl
  m16 := by kernel_rfl
  m17 := by kernel_rfl
  m18 := by kernel_rfl
  m19 := by kernel_rfl
  c0 := by kernel_rfl
  c2 := by kernel_rfl
  c3 := by kernel_rfl
  c4 := by kernel_rfl
  c5 := by kernel_rfl
  c9 := by kernel_rfl
  c20 := by kernel_rfl
  c21 := by kernel_rfl
  c37 := by kernel_rfl
  c46 := by kernel_rfl
  c51 := by kernel_rfl
  c53 := by kernel_rfl
  c75 := by kernel_rfl
  c80 := by kernel_rfl
  c85 := by kernel_rfl
  c127 := by kernel_rfl
  c143 := by kernel_rfl
  c145 := by kernel_rfl
  c167 := by kernel_rfl
  c168 := by kernel_rfl
  c171 := by kernel_rfl
  c173 := by kernel_rfl
  c175 := by kernel_rfl
  c210 := by kernel_rfl
  c212 := by kernel_rfl
  c213 := by kernel_rfl
  c232 := by kernel_rfl
  c233 := by kernel_rfl
/-- What strconv and strings read of package variables. -/
structure EnvN (W : World) : Prop where
  tab : Lib.TabIs Tryz.prog W "internal/strconv.uint64pow10" .u64 Lib.pow10Tab
  es : ∃ t p, W.cell? ⟨8, 0, none⟩ = some (.iface t p)
  er : ∃ t p, W.cell? ⟨9, 0, none⟩ = some (.iface t p)
  mx : ∃ m, W.cell? ⟨5, 0, none⟩ = some (.int .i64 m)
theorem EnvN.next {W V : World} (h : EnvN W) (hb : Below W.heap.size W V) : EnvN V := by
  obtain ⟨h1, ⟨t, p, h2⟩, ⟨t', p', h3⟩, ⟨m, h4⟩⟩ := h
  exact ⟨(Lib.tabBelow_of_tabIs h1) V hb, ⟨t, p, (hb.cell (p := ⟨8, 0, none⟩) (World.block_lt_of_cell? W _ h2)).trans h2⟩, ⟨t', p', (hb.cell (p := ⟨9, 0, none⟩) (World.block_lt_of_cell? W _ h3)).trans h3⟩, ⟨m, (hb.cell (p := ⟨5, 0, none⟩) (World.block_lt_of_cell? W _ h4)).trans h4⟩⟩
/-- What ParseInt ends with: a number, or an error. -/
def PIEnd (s : ByteArray) (w : World) (e : Ending) (w' : World) : Prop := Below w.heap.size w w' ∧
  ((∃ v, Lib.parseIntB 64 s.data.toList = .ok v ∧ e = .returned (.tuple #[.int .i64 v, .nilIface])) ∨
   ((∀ v, Lib.parseIntB 64 s.data.toList ≠ .ok v) ∧ ∃ (v : Int) (t : TypeId) (a : Addr), e = .returned (.tuple #[.int .i64 v, .iface t (.pointer (some a))])))
theorem parseInt_any (s : ByteArray) (hs : s.size ≤ 3000) (w : World) (hE : EnvN w) :
    Calls Tryz.prog 70 #[.string s, .int .i64 10, .int .i64 64] w fun e w' => PIEnd s w e w' := by
  cases h : Lib.parseIntB 64 s.data.toList with
  | ok v =>
    refine (Any.strconv_ParseInt_10_at64_ok pi_lays s (by omega) v h w).mono ?_
    rintro e w' ⟨rfl, hw⟩
    refine ⟨?_, .inl ⟨v, h, rfl⟩⟩
    rcases hw with rfl | ⟨t, rfl⟩
    · exact Below.refl _ _
    · exact Lib.bytesWorld_below _ _ _
  | «syntax» =>
    obtain ⟨t, p, e1⟩ := hE.es
    refine (Any.strconv_ParseInt_10_at64_syntax pi_lays s (by omega) h (.iface t p) w e1 (.inr ⟨t, p, rfl⟩)).mono ?_
    rintro e w' ⟨N, rfl, _, _, hb⟩
    exact ⟨hb, .inr ⟨fun v hv => (by rw [h] at hv; cases hv), _, _, _, rfl⟩⟩
  | range =>
    obtain ⟨t, p, e1⟩ := hE.er
    refine (Any.strconv_ParseInt_10_at64_range pi_lays s (by omega) h (.iface t p) w e1 (.inr ⟨t, p, rfl⟩)).mono ?_
    rintro e w' ⟨N, rfl, _, _, hb⟩
    exact ⟨hb, .inr ⟨fun v hv => (by rw [h] at hv; cases hv), _, _, _, rfl⟩⟩
/-- What num ends with. -/
def NumEnd (s : ByteArray) (p : Addr) (w : World) (e : Ending) (w' : World) : Prop := Below w.heap.size w w' ∧
  ((∃ n, Lib.itoa n = s.data.toList ∧ (-9223372036854775808 ≤ n ∧ n ≤ 9223372036854775807) ∧ e = .returned (.tuple #[val 10 n wNone, .nilIface])) ∨
   ((∀ m : Int, -9223372036854775808 ≤ m → m ≤ 9223372036854775807 → Lib.itoa m ≠ s.data.toList) ∧ e = .returned (.tuple #[val 0 0 wNone, errV p])))
set_option maxHeartbeats 8000000 in
theorem millNum_any (s : ByteArray) (hs : s.size ≤ 3000) (p : Addr) (x : ByteArray) (w : World) (hE : EnvN w) (he : ErrAt w 3 p x) :
    Calls Tryz.prog 48 #[.string s] w fun e w' => NumEnd s p w e w' := by
  have HE := hid hE
  have HX := hid he
  have HB2 := hid (alloc2 w (vbox 0 0 wNone) (vbox 10 0 wNone))
  have HG0 : Hid (((w.alloc (vbox 0 0 wNone)).alloc (vbox 10 0 wNone)).heap[w.heap.size]? = some (vbox 0 0 wNone)) := heap_old (heap_new w _)
  have HG1 : Hid (((w.alloc (vbox 0 0 wNone)).alloc (vbox 10 0 wNone)).heap[w.heap.size + 1]? = some (vbox 10 0 wNone)) := by
    have := heap_new (w.alloc (vbox 0 0 wNone)) (vbox 10 0 wNone)
    rwa [World.size_alloc] at this
  have hlg := he.lg
  clear hE he
  go_enter Tryz.func48, Tryz.ntmps48
  go_wp2_with fail
  refine (parseInt_any s hs _ (HE.out.next HB2.out)).mono ?_
  rintro e w3 ⟨hb3, hend⟩
  have HB3 := hid (HB2.out.trans (hb3.mono (by simp; omega)))
  have HK0 := hid (keep_box HG0.out hb3)
  have HK1 := hid (keep_box HG1.out hb3)
  obtain ⟨x0, x1, x2, y0, y1, y2⟩ := six HK1.out
  clear hb3 HG0 HG1 HB2
  have hn1 : ¬ w.heap.size = 3 := by omega
  have hn2 : ¬ 3 = w.heap.size := by omega
  rcases hend with ⟨v, hv, rfl⟩ | ⟨hno, v, t, a, rfl⟩
  · have HV := hid hv
    obtain ⟨v1, v2⟩ := int_bd hv
    clear hv
    go_upto_region 4 with fail
    have HQ0 : Hid ((w3.setCell ⟨w.heap.size + 1, 1, none⟩ (.int .i64 v)).heap[w.heap.size]? = some (vbox 0 0 wNone)) := (Below.heap_setCell _ _ _ _ (show w.heap.size ≠ w.heap.size + 1 by omega)).trans HK0.out
    have HQ1 := hid (setN_box HK1.out v)
    have HB4 := hid (set_below HB3.out (w.heap.size + 1) 1 (by omega) (.int .i64 v))
    obtain ⟨W4, hW4⟩ : ∃ W, w3.setCell ⟨w.heap.size + 1, 1, none⟩ (.int .i64 v) = W := ⟨_, rfl⟩
    rw [hW4] at HQ0 HQ1 HB4 ⊢
    clear hW4 x0 x1 x2 y0 y1 y2 HK0 HK1
    obtain ⟨x0, x1, x2, _, _, _⟩ := six HQ1.out
    have HD : Hid (∀ V, Below w.heap.size w V → Calls Tryz.prog 47 #[val 10 v wNone] V fun e w' => e = .returned (.string ⟨(Lib.itoa v).toArray⟩) ∧ Below V.heap.size V w') := fun V hV => by
      have := millDec_any 10 v wNone (by decide) (by decide) (by show v = IntKind.i64.wrap (IntKind.i64.wrap v); simp only [IntKind.wrap_i64]; omega) V (HE.out.next hV).tab
      rwa [decT_int (by decide) (by decide) (by decide) (by show v = IntKind.i64.wrap (IntKind.i64.wrap v); simp only [IntKind.wrap_i64]; omega)] at this
    obtain ⟨S, hS⟩ : ∃ S : ByteArray, ⟨(Lib.itoa v).toArray⟩ = S := ⟨_, rfl⟩
    have HEQ : Hid ((S.toList == s.toList) = (Lib.itoa v == s.data.toList)) := by rw [← hS]; show (_ == _) = _; rw [Lib.toList_data, Lib.toList_data]
    rw [hS] at HD
    clear hS
    go_wp2_with fail
    refine (HD.out _ HB4.out).mono ?_
    rintro e w5 ⟨rfl, hb5⟩
    have HB5 := hid (HB4.out.trans (hb5.mono HB4.out.size))
    have HK0 := hid (keep_box HQ0.out hb5)
    have HK1 := hid (keep_box HQ1.out hb5)
    clear hb5 x0 x1 x2
    obtain ⟨r0, r1, r2, f0, f1, f2⟩ := six HK0.out
    obtain ⟨x0, x1, x2, _, _, _⟩ := six HK1.out
    cases hq : (S.toList == s.toList) with
    | true =>
      have hq2 : (S.toList != s.toList) = false := by simp only [bne, hq]; rfl
      have HQ : Hid (Lib.itoa v = s.data.toList) := by have := HEQ.out; rw [hq] at this; exact eq_of_beq this.symm
      go_wp2
      exact bodyPost_ret (v := .tuple #[val 10 v wNone, .nilIface]) (by simp [results, Tryz.results48, go_sem, r0, r1, r2]) rfl ⟨setr (Nat.le_refl _) HB5.out _ _ _, .inl ⟨v, HQ.out, ⟨v1, v2⟩, rfl⟩⟩
    | false =>
      have hq2 : (S.toList != s.toList) = true := by simp only [bne, hq]; rfl
      have HQ : Hid (∀ m : Int, -9223372036854775808 ≤ m → m ≤ 9223372036854775807 → Lib.itoa m ≠ s.data.toList) := fun m m1 m2 e => by
        have h1 := HV.out
        rw [← e, int_itoa m m1 m2] at h1
        injection h1 with h1
        subst h1
        have := HEQ.out
        rw [hq, e] at this
        simp at this
      have g0 := (HX.out.next HB5.out).glob
      go_wp2
      go_region
      go_wp2
      exact bodyPost_ret (v := .tuple #[val 0 0 wNone, errV p]) (by simp [results, Tryz.results48, go_sem, r0, r1, r2]) rfl ⟨(setr (Nat.le_refl _) HB5.out _ _ _).drew, .inr ⟨HQ.out, rfl⟩⟩
  · have HQ : Hid (∀ m : Int, -9223372036854775808 ≤ m → m ≤ 9223372036854775807 → Lib.itoa m ≠ s.data.toList) := fun m m1 m2 e => hno m (by rw [← e]; exact int_itoa m m1 m2)
    clear hno
    go_upto_region 5 with fail
    have HQ0 : Hid ((w3.setCell ⟨w.heap.size + 1, 1, none⟩ (.int .i64 v)).heap[w.heap.size]? = some (vbox 0 0 wNone)) := (Below.heap_setCell _ _ _ _ (show w.heap.size ≠ w.heap.size + 1 by omega)).trans HK0.out
    have HB4 := hid (set_below HB3.out (w.heap.size + 1) 1 (by omega) (.int .i64 v))
    obtain ⟨W4, hW4⟩ : ∃ W, w3.setCell ⟨w.heap.size + 1, 1, none⟩ (.int .i64 v) = W := ⟨_, rfl⟩
    rw [hW4] at HQ0 HB4 ⊢
    clear hW4 x0 x1 x2 y0 y1 y2 HK0 HK1
    obtain ⟨r0, r1, r2, f0, f1, f2⟩ := six HQ0.out
    have g0 := (HX.out.next HB4.out).glob
    go_region
    go_wp2
    exact bodyPost_ret (v := .tuple #[val 0 0 wNone, errV p]) (by simp [results, Tryz.results48, go_sem, r0, r1, r2]) rfl ⟨(setr (Nat.le_refl _) HB4.out _ _ _).drew, .inr ⟨HQ.out, rfl⟩⟩
end Go.Proofs.YtabefhpgeaihgaaGreatDoor.V
