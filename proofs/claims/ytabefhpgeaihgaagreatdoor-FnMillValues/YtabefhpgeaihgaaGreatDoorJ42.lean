import Derived.Deep.DeepCutAuto
import Derived.Test.YtabefhpgeaihgaaGreatDoorJ40
/-! Draws: an op and two values. -/
namespace Go.Proofs.YtabefhpgeaihgaaGreatDoor.V
open Go.RowKit Go.Shelf
set_option maxRecDepth 20000
theorem CodeA.below {w W : World} {ad : Option Addr} {n : Nat} (h : CodeA w ad n) (hW : Below w.heap.size w W) : CodeA W ad n := by
  rcases h with h | ⟨a, e, h1, h2⟩
  · exact .inl h
  · refine .inr ⟨a, e, Nat.lt_of_lt_of_le h1 hW.size, fun i hi => ?_⟩
    obtain ⟨x, hx⟩ := h2 i hi
    exact ⟨x, (hW.cell (p := a.add i) (by rw [add_block]; exact h1)).trans hx⟩
abbrev Bd (n : Int) : Prop := -9223372036854775808 ≤ n ∧ n ≤ 9223372036854775807
/-- A box of a value. -/
def InBox (g : Nat) (W : World) : Prop := ∃ t n s, W.heap[g]? = some (vbox t n s) ∧ Bd n
theorem InBox.sv {R g : Nat} {W V : World} (h : InBox g W) (hs : Sv (fun k => k = R) W V) (hg : g ≠ R) : InBox g V := by
  obtain ⟨t, n, s, e, hb⟩ := h
  exact ⟨t, n, s, (hs.block g (Array.getElem?_eq_some_iff.1 e).1 hg).trans e, hb⟩
theorem InBox.next {g : Nat} {W V : World} (h : InBox g W) (hs : Below W.heap.size W V) : InBox g V := by
  obtain ⟨t, n, s, e, hb⟩ := h
  exact ⟨t, n, s, (hs.block g (Array.getElem?_eq_some_iff.1 e).1).trans e, hb⟩
theorem InBox.other {g k i : Nat} {W : World} {v : Value} (h : InBox g W) (hg : g ≠ k) : InBox g (W.setCell ⟨k, i, none⟩ v) := by
  obtain ⟨t, n, s, e, hb⟩ := h
  exact ⟨t, n, s, (Below.heap_setCell _ _ _ _ hg).trans e, hb⟩
theorem InBox.putN {g : Nat} {W : World} (h : InBox g W) (n : Int) (hn : Bd n) : InBox g (W.setCell ⟨g, 1, none⟩ (.int .i64 n)) := by
  obtain ⟨t, m, s, e, hb⟩ := h
  refine ⟨t, n, s, ?_, hn⟩
  have := set_at (i := 1) (.int .i64 n) e
  simpa using this
/-- Both values lie in boxes, since W1. -/
structure DS (R : Nat) (W1 : World) (ga gb c : Nat) (W : World) : Prop where
  at_ : At R W1 c W
  a : InBox ga W
  b : InBox gb W
  ne : ga ≠ gb
  la : W1.heap.size ≤ ga
  lb : W1.heap.size ≤ gb
  r : R < W1.heap.size
section
variable {R ga gb c : Nat} {W1 W V : World}
theorem DS.mono {d : Nat} (h : DS R W1 ga gb c W) (hd : c ≤ d) : DS R W1 ga gb d W := { h with at_ := h.at_.mono hd }
theorem DS.next (h : DS R W1 ga gb c W) (hs : Below W.heap.size W V) : DS R W1 ga gb c V := { h with at_ := h.at_.next hs, a := h.a.next hs, b := h.b.next hs }
theorem DS.setA (h : DS R W1 ga gb c W) (n : Int) (hn : Bd n) : DS R W1 ga gb c (W.setCell ⟨ga, 1, none⟩ (.int .i64 n)) := { h with at_ := h.at_.set h.r h.la _, a := h.a.putN n hn, b := h.b.other h.ne.symm }
theorem DS.setB (h : DS R W1 ga gb c W) (n : Int) (hn : Bd n) : DS R W1 ga gb c (W.setCell ⟨gb, 1, none⟩ (.int .i64 n)) := { h with at_ := h.at_.set h.r h.lb _, a := h.a.other h.ne, b := h.b.putN n hn }
theorem InBox.put3 {g : Nat} {W : World} (h : InBox g W) (t n : Int) (s : ByteArray) (hn : Bd n) : InBox g (((W.setCell ⟨g, 0, none⟩ (.int .i64 t)).setCell ⟨g, 1, none⟩ (.int .i64 n)).setCell ⟨g, 2, none⟩ (.string s)) := by
  obtain ⟨t', m, s', e, hb⟩ := h
  refine ⟨t, n, s, ?_, hn⟩
  have := set_at (i := 2) (.string s) (set_at (i := 1) (.int .i64 n) (set_at (i := 0) (.int .i64 t) e))
  simpa using this
theorem DS.copyB (h : DS R W1 ga gb c W) (t n : Int) (s : ByteArray) (hn : Bd n) : DS R W1 ga gb c (((W.setCell ⟨gb, 0, none⟩ (.int .i64 t)).setCell ⟨gb, 1, none⟩ (.int .i64 n)).setCell ⟨gb, 2, none⟩ (.string s)) :=
  { h with at_ := h.at_.set3 h.r h.lb _ _ _, a := ((h.a.other h.ne).other h.ne).other h.ne, b := h.b.put3 t n s hn }
theorem DS.pick (h : DS R W1 ga gb c W) (hc : c ≤ 100000) (n : Int) (hn : n ≤ 1000000) :
    Calls Tryz.prog 12 #[.pointer (some ⟨R, 0, none⟩), .int .i64 n] W fun e w' => ∃ x : Nat, e = .returned (.int .i64 x) ∧ (x = 0 ∨ (x : Int) < n) ∧ DS R W1 ga gb (c + 1) w' ∧ Sv (fun k => k = R) W w' := by
  refine (pick_at h.at_ (by omega) n hn).mono ?_
  rintro e w' ⟨x, rfl, hx, a, s⟩
  have h1 : ga ≠ R := by have := h.la; have := h.r; omega
  have h2 : gb ≠ R := by have := h.lb; have := h.r; omega
  exact ⟨x, rfl, hx, { h with at_ := a, a := h.a.sv s h1, b := h.b.sv s h2 }, s⟩
end
/-- What is drawn: an op and two values. -/
def DrawEnd (w : World) (e : Ending) (w' : World) : Prop := ∃ (op ta na : Int) (sa : ByteArray) (tb nb : Int) (sb : ByteArray), e = .returned (.tuple #[.int .i64 op, val ta na sa, val tb nb sb]) ∧ Bd na ∧ Bd nb ∧ Below w.heap.size w w'
set_option maxHeartbeats 16000000 in
theorem draw_any (ad : Option Addr) (n cap : Nat) (w : World) (hn : n ≤ 1048576) (hc : n ≤ cap) (hcm : cap ≤ 9223372036854775807) (h : CodeA w ad n) (hnil : ad = none → n = 0 ∧ cap = 0) :
    Calls Tryz.prog 4 #[.slice ad n cap] w fun e w' => DrawEnd w e w' := by
  have HC := hid h
  have HNIL := hid hnil
  clear h hnil
  go_enter Tryz.func4, Tryz.ntmps4
  go_wp2_with fail
  refine (l10Open_any ad n cap _ hn hc hcm (HC.out.below (alloc2 _ _ _)) HNIL.out).mono ?_
  rintro e W1 ⟨rfl, hrd, hb1⟩
  have hRl := hrd.lt
  obtain ⟨R, hRe⟩ : ∃ R, ((w.alloc (vbox 0 0 wNone)).alloc (vbox 0 0 wNone)).heap.size = R := ⟨_, rfl⟩
  have HR2 : Hid (R = w.heap.size + 2) := by show R = _; rw [← hRe]; simp
  have HB1 := hid ((alloc2 w (vbox 0 0 wNone) (vbox 0 0 wNone)).trans (hb1.mono (by simp; omega)))
  have HR3 : Hid (W1.heap[w.heap.size]? = some (vbox 0 0 wNone)) := (hb1.block w.heap.size (by simp; omega)).trans (heap_old (heap_new w _))
  have HR4 : Hid (W1.heap[w.heap.size + 1]? = some (vbox 0 0 wNone)) := (hb1.block (w.heap.size + 1) (by simp)).trans (by have := heap_new (w.alloc (vbox 0 0 wNone)) (vbox 0 0 wNone); rwa [World.size_alloc] at this)
  rw [hRe] at hrd hRl ⊢
  have HA1 : Hid (At R W1 0 W1) := At.start hrd
  clear hb1 hrd hRe
  go_wp2_with fail
  refine (pick_at HA1.out (by omega) 18 (by omega)).mono ?_
  rintro e w2 ⟨x, rfl, hx, a2, s2⟩
  have HA2 := hid a2
  clear a2 s2
  have hx18 : x ≤ 17 := by omega
  clear hx
  go_wp2_with fail
  refine (pick_at HA2.out (by omega) 8 (by omega)).mono ?_
  rintro e w3 ⟨y, rfl, hy, a3, s3⟩
  have HA3 := hid a3
  clear a3 s3
  have hy8 : y ≤ 7 := by omega
  clear hy
  go_upto_if 19 with fail
  go_cut [7] (fun v wx => ∃ t : Int, v = .int .i64 t ∧ 1 ≤ t ∧ t ≤ 10 ∧ At R W1 3 wx)
  case first =>
    by_cases h2 : x ≤ 1
    · go_wp2_with fail
      go_meet
      case rel => exact ⟨1, rfl, by decide, by decide, HA3.out.mono (by omega)⟩
    · by_cases h9 : x ≤ 8
      · go_wp2_with fail
        refine (pick_at HA3.out (by omega) 3 (by omega)).mono ?_
        rintro e w4 ⟨u, rfl, hu, a4, s4⟩
        have HA4 := hid a4
        clear a4 s4 hu
        go_wp2_with fail
        · go_meet
          case rel => exact ⟨2, rfl, by decide, by decide, HA4.out⟩
        · go_meet
          case rel => exact ⟨_, rfl, by omega, by omega, HA4.out⟩
      · go_wp2_with fail
        go_meet
        case rel => exact ⟨_, rfl, by omega, by omega, HA3.out.mono (by omega)⟩
  case rest =>
    obtain ⟨t, rfl, t1, t10, a4⟩ := hcut
    have HA4 := hid a4
    clear a4
    go_wp2_with fail
    refine (any_at HA4.out (by omega) hRl t t1 t10).mono ?_
    rintro e w5 ⟨ta, na, sa, rfl, hna, a5⟩
    have HA5 := hid (a5.alloc (vbox ta na sa))
    have HBA : Hid (InBox w5.heap.size (w5.alloc (vbox ta na sa))) := ⟨ta, na, sa, heap_new w5 _, hna⟩
    have hga : W1.heap.size ≤ w5.heap.size := a5.size
    clear a5
    go_upto_region 9 with fail
    obtain ⟨ga, hge⟩ : ∃ ga, w5.heap.size = ga := ⟨_, rfl⟩
    rw [hge] at HBA hga ⊢
    obtain ⟨w6, hw6⟩ : ∃ w6, w5.alloc (vbox ta na sa) = w6 := ⟨_, rfl⟩
    have hlt : ga < w6.heap.size := by rw [← hw6, ← hge]; simp
    rw [hw6] at HA5 HBA ⊢
    clear hge hw6
    have hgR : ga ≠ R := by omega
    go_wp2_with fail
    refine (pick_at HA5.out (by omega) 16 (by omega)).mono ?_
    rintro e w7 ⟨u, rfl, hu, a7, s7⟩
    have HA7 := hid a7
    have HBA7 := hid (HBA.out.sv s7 hgR)
    have hlt7 : ga < w7.heap.size := Nat.lt_of_lt_of_le hlt s7.size
    clear a7 s7 hu HBA hlt HA5
    go_upto_if 32 with fail
    go_cut [7] (fun v wx => ∃ t : Int, v = .int .i64 t ∧ 1 ≤ t ∧ t ≤ 10 ∧ At R W1 40 wx ∧ InBox ga wx ∧ ga < wx.heap.size)
    case first =>
      go_wp2_with fail
      · refine (pick_at HA7.out (by omega) 10 (by omega)).mono ?_
        rintro e w8 ⟨k, rfl, hk, a8, s8⟩
        have HA8 := hid a8
        have HBA8 := hid (HBA7.out.sv s8 hgR)
        have hlt8 : ga < w8.heap.size := Nat.lt_of_lt_of_le hlt7 s8.size
        clear a8 s8
        go_wp2_with fail
        go_meet
        case rel => exact ⟨_, rfl, by omega, by omega, HA8.out.mono (by omega), HBA8.out, hlt8⟩
      · go_meet
        case rel => exact ⟨t, rfl, t1, t10, HA7.out.mono (by omega), HBA7.out, hlt7⟩
    case rest =>
      clear t1 t10 HA7 HBA7 hlt7
      obtain ⟨t, rfl, t1, t10, a9, b9, l9⟩ := hcut
      obtain ⟨w9, hw9⟩ : ∃ w9, w9 = wc := ⟨_, rfl⟩
      rw [← hw9] at a9 b9 l9 ⊢
      clear hw9
      have HA9 := hid a9
      have HBA9 := hid b9
      have HAH := hid a9.here
      clear a9 b9
      go_wp2_with fail
      refine (any_at HAH.out (by omega) (by have := HA9.out.lt; omega) t t1 t10).mono ?_
      rintro e w10 ⟨tb, nb, sb, rfl, hnb, a10⟩
      have HDS : Hid (DS R W1 ga w10.heap.size 70 (w10.alloc (vbox tb nb sb))) := by
        obtain ⟨ta, na, sa, e, hb⟩ := HBA9.out
        exact ⟨((HA9.out.join a10).alloc _).mono (by omega), (show InBox ga w10 from ⟨ta, na, sa, a10.heap e hgR, hb⟩).next (alloc_below _ _), ⟨tb, nb, sb, heap_new w10 _, hnb⟩, by have := a10.size; omega, hga, Nat.le_trans HA9.out.size a10.size, hRl⟩
      clear a10 HA9 HAH HBA9 l9
      go_upto_region 12 with fail
      obtain ⟨gb, hge⟩ : ∃ gb, w10.heap.size = gb := ⟨_, rfl⟩
      obtain ⟨w11, hw11⟩ : ∃ w11, w10.alloc (vbox tb nb sb) = w11 := ⟨_, rfl⟩
      rw [hge, hw11] at HDS
      rw [hge, hw11]
      clear hge hw11
      have HLI : Hid (∀ (t : Int) (V : World), 3 ≤ t → t ≤ 10 → _) := fun t V h3 h4 => l10Integer_t t h3 h4 V
      have HLF : Hid (∀ (t : Int) (V : World), ¬ (3 ≤ t ∧ t ≤ 10) → _) := fun t V h => l10Integer_f t h V
      go_cut [50] (fun v wx => ∃ b : Bool, v = .bool b ∧ DS R W1 ga gb 71 wx)
      case first =>
        obtain ⟨tb, nb, sb, eb, hb⟩ := HDS.out.b
        obtain ⟨x0, x1, x2, y0, y1, y2⟩ := at_vbox eb
        clear eb
        by_cases h17 : 17 ≤ 1 + (x : Int)
        · by_cases hi : 3 ≤ tb ∧ tb ≤ 10
          · obtain ⟨i3, i4⟩ := hi
            go_wp2_with fail
            refine (HLI.out tb _ i3 i4).mono ?_
            rintro e w12 ⟨rfl, hw⟩
            have hw2 := hw.symm
            clear hw
            subst hw2
            go_wp2_with fail
            refine (HDS.out.pick (by omega) 2 (by omega)).mono ?_
            rintro e w12 ⟨k, rfl, hk, d12, _⟩
            have HD12 := hid d12
            clear d12
            go_wp2_with fail
            go_meet
            case rel => exact ⟨_, rfl, HD12.out⟩
          · have HNI := hid hi
            clear hi
            go_wp2_with fail
            refine (HLF.out tb _ HNI.out).mono ?_
            rintro e w12 ⟨rfl, hw⟩
            have hw2 := hw.symm
            clear hw
            subst hw2
            go_wp2_with fail
            go_meet
            case rel => exact ⟨_, rfl, HDS.out.mono (by omega)⟩
        · go_wp2_with fail
          go_meet
          case rel => exact ⟨_, rfl, HDS.out.mono (by omega)⟩
      case rest =>
        obtain ⟨bv, rfl, d12⟩ := hcut
        obtain ⟨w12, hw12⟩ : ∃ w12, w12 = wc := ⟨_, rfl⟩
        rw [← hw12] at d12 ⊢
        clear hw12 HDS
        have HD12 := hid d12
        clear d12
        have HMX := hid (l10Max_any t t1 t10)
        go_upto_if 50 with fail
        go_cut [6] (fun v wx => v = .int .i64 (1 + (x : Int)) ∧ DS R W1 ga gb 75 wx)
        case first =>
          obtain ⟨tb, nb, sb, eb, hb⟩ := HD12.out.b
          cases bv
          · go_wp2_with fail
            go_meet
            case rel => exact ⟨rfl, HD12.out.mono (by omega)⟩
          · go_wp2_with fail
            refine (HD12.out.pick (by omega) 70 (by omega)).mono ?_
            rintro e w13 ⟨k, rfl, hk, d13, _⟩
            have HD13 := hid d13
            clear d13
            go_wp2_with fail
            refine (HMX.out _).mono ?_
            rintro e w14 ⟨m, rfl, m1, m2, hb14⟩
            have HD14 := hid (HD13.out.next hb14)
            clear hb14
            obtain ⟨tb, nb, sb, eb, hb⟩ := HD14.out.b
            obtain ⟨x0, x1, x2, y0, y1, y2⟩ := at_vbox eb
            clear eb
            go_wp2_with fail
            go_meet
            case rel =>
              have q1 := Int.emod_nonneg (k : Int) (show m % 71 + 1 ≠ 0 by omega)
              have q2 := Int.emod_lt_of_pos (k : Int) (show 0 < m % 71 + 1 by omega)
              exact ⟨rfl, (HD14.out.setB _ ⟨by omega, by omega⟩).mono (by omega)⟩
        case rest =>
          obtain ⟨rfl, d15⟩ := hcut
          obtain ⟨w15, hw15⟩ : ∃ w15, w15 = wc := ⟨_, rfl⟩
          rw [← hw15] at d15 ⊢
          clear hw15 HD12
          have HD15 := hid d15
          clear d15
          go_upto_region 14 with fail
          go_cut [78] (fun v wx => ∃ b : Bool, v = .bool b ∧ DS R W1 ga gb 76 wx)
          case first =>
            obtain ⟨tb, nb, sb, eb, hb⟩ := HD15.out.b
            obtain ⟨x0, x1, x2, _, _, _⟩ := at_vbox eb
            obtain ⟨ta, na, sa, ea, ha⟩ := HD15.out.a
            obtain ⟨z0, z1, z2, _, _, _⟩ := at_vbox ea
            clear eb ea
            by_cases h17 : 17 ≤ 1 + (x : Int)
            · by_cases hi : 3 ≤ tb ∧ tb ≤ 10
              · obtain ⟨i3, i4⟩ := hi
                by_cases ht : tb = ta
                · subst ht
                  go_wp2_with fail
                  refine (HLI.out tb _ i3 i4).mono ?_
                  rintro e w16 ⟨rfl, hw⟩
                  have hw2 := hw.symm
                  clear hw
                  subst hw2
                  go_wp2_with fail
                  refine (HD15.out.pick (by omega) 6 (by omega)).mono ?_
                  rintro e w16 ⟨k, rfl, hk, d16, _⟩
                  have HD16 := hid d16
                  clear d16
                  go_wp2_with fail
                  go_meet
                  case rel => exact ⟨_, rfl, HD16.out⟩
                · have htb : (tb == ta) = false := by simpa using ht
                  go_wp2_with fail
                  refine (HLI.out tb _ i3 i4).mono ?_
                  rintro e w16 ⟨rfl, hw⟩
                  have hw2 := hw.symm
                  clear hw
                  subst hw2
                  go_wp2_with fail
                  go_meet
                  case rel => exact ⟨_, rfl, HD15.out.mono (by omega)⟩
              · have HNI := hid hi
                clear hi
                go_wp2_with fail
                refine (HLF.out tb _ HNI.out).mono ?_
                rintro e w16 ⟨rfl, hw⟩
                have hw2 := hw.symm
                clear hw
                subst hw2
                go_wp2_with fail
                go_meet
                case rel => exact ⟨_, rfl, HD15.out.mono (by omega)⟩
            · go_wp2_with fail
              go_meet
              case rel => exact ⟨_, rfl, HD15.out.mono (by omega)⟩
          case rest =>
            obtain ⟨bv2, rfl, d17⟩ := hcut
            obtain ⟨w17, hw17⟩ : ∃ w17, w17 = wc := ⟨_, rfl⟩
            rw [← hw17] at d17 ⊢
            clear hw17 HD15
            have HD17 := hid d17
            clear d17
            have HMS := hid (l10Max_same t t1 t10)
            have hmt := maxT_bd t
            obtain ⟨hmt1, hmt2⟩ := hmt
            generalize maxT t = mx at *
            have hgab : ¬ ga = gb := HD17.out.ne
            have hgba : ¬ gb = ga := fun e => hgab e.symm
            go_upto_if 78 with fail
            go_cut [6] (fun v wx => v = .int .i64 (1 + (x : Int)) ∧ DS R W1 ga gb 80 wx)
            case first =>
              cases bv2
              · go_wp2_with fail
                go_meet
                case rel => exact ⟨rfl, HD17.out.mono (by omega)⟩
              · go_wp2_with fail
                refine ((HD17.out.next (alloc_below _ _)).pick (by omega) 8 (by omega)).mono ?_
                rintro e w18 ⟨k, rfl, hk, d18, s18⟩
                have HD18 := hid d18
                have hk8 : k < 8 := by omega
                have hz8 : (k : Int) < 8 := by omega
                obtain ⟨n1, c1, hn1⟩ : ∃ n1 : Int, w18.cell? ⟨w17.heap.size, k, none⟩ = some (.int .i64 n1) ∧ Bd n1 := by
                  rw [lit_cell s18 HD17.out.at_.lt]
                  have h7 : k = 0 ∨ k = 1 ∨ k = 2 ∨ k = 3 ∨ k = 4 ∨ k = 5 ∨ k = 6 ∨ k = 7 := by omega
                  rcases h7 with rfl | rfl | rfl | rfl | rfl | rfl | rfl | rfl <;> exact ⟨_, rfl, by decide, by decide⟩
                clear hk d18 s18
                obtain ⟨tb, nb, sb, eb, hb⟩ := HD18.out.b
                obtain ⟨x0, x1, x2, y0, y1, y2⟩ := at_vbox eb
                have c18 : (w18.setCell ⟨gb, 1, none⟩ (.int .i64 n1)).cell? ⟨gb, 1, none⟩ = some (.int .i64 n1) := (cell_hp (set_at (i := 1) (.int .i64 n1) eb) 1).trans rfl
                have HC18 := hid c18
                clear eb c18
                go_wp2_with fail
                have c18 := HC18.out
                have HD19 := hid (HD18.out.setB n1 hn1)
                obtain ⟨w19, hw19⟩ : ∃ w19, w18.setCell ⟨gb, 1, none⟩ (.int .i64 n1) = w19 := ⟨_, rfl⟩
                rw [hw19] at HD19 c18 ⊢
                clear HC18 hw19 x0 x1 x2 y0 y1 y2 c1 HD18
                go_quiet (first | (go_at_call 15; exact Calls.quiet_of_same (HMS.out _)) | fail)
                have HD20 := hid (HD19.out.next (drewN_below w19 nq))
                obtain ⟨w20, hw20⟩ : ∃ w20, w19.drewN nq = w20 := ⟨_, rfl⟩
                rw [hw20] at HD20 ⊢
                clear hw20 c18 HD19
                go_upto_if 91 with fail
                go_cut [6] (fun v wx => v = .int .i64 (1 + (x : Int)) ∧ DS R W1 ga gb 77 wx)
                case first =>
                  obtain ⟨tb, nb, sb, eb, hb⟩ := HD20.out.b
                  obtain ⟨x0, x1, x2, y0, y1, y2⟩ := at_vbox eb
                  clear eb
                  go_wp2_with fail
                  · go_meet
                    case rel => exact ⟨rfl, HD20.out.setB 8 ⟨by decide, by decide⟩⟩
                  · go_meet
                    case rel => exact ⟨rfl, HD20.out⟩
                case rest =>
                  obtain ⟨rfl, d21⟩ := hcut
                  obtain ⟨w21, hw21⟩ : ∃ w21, w21 = wc := ⟨_, rfl⟩
                  rw [← hw21] at d21 ⊢
                  clear hw21 HD20
                  have HD21 := hid d21
                  clear d21
                  go_wp2_with fail
                  refine ((HD21.out.next (alloc_below _ _)).pick (by omega) 3 (by omega)).mono ?_
                  rintro e w22 ⟨k, rfl, hk, d22, s22⟩
                  have HD22 := hid d22
                  have hk3 : k < 3 := by omega
                  have hz3 : (k : Int) < 3 := by omega
                  obtain ⟨n1, c1, hn1⟩ : ∃ n1 : Int, w22.cell? ⟨w21.heap.size, k, none⟩ = some (.int .i64 n1) ∧ (0 ≤ n1 ∧ n1 ≤ 100) := by
                    rw [lit_cell s22 HD21.out.at_.lt]
                    have h7 : k = 0 ∨ k = 1 ∨ k = 2 := by omega
                    rcases h7 with rfl | rfl | rfl <;> exact ⟨_, rfl, by decide, by decide⟩
                  clear hk d22 s22
                  obtain ⟨ta, na, sa, ea, ha⟩ := HD22.out.a
                  obtain ⟨x0, x1, x2, y0, y1, y2⟩ := at_vbox ea
                  clear ea
                  go_wp2_with fail
                  · go_meet
                    case rel => exact ⟨rfl, ((HD22.out.setA n1 ⟨by omega, by omega⟩).setA (-n1) ⟨by omega, by omega⟩).mono (by omega)⟩
                  · go_meet
                    case rel => exact ⟨rfl, (HD22.out.setA n1 ⟨by omega, by omega⟩).mono (by omega)⟩
            case rest =>
              obtain ⟨rfl, d24⟩ := hcut
              obtain ⟨w24, hw24⟩ : ∃ w24, w24 = wc := ⟨_, rfl⟩
              rw [← hw24] at d24 ⊢
              clear hw24 HD17
              have HD24 := hid d24
              clear d24
              go_upto_region 21 with fail
              go_cut [111] (fun v wx => ∃ b : Bool, v = .bool b ∧ DS R W1 ga gb 81 wx)
              case first =>
                by_cases h8 : 1 + (x : Int) ≤ 8
                · go_wp2_with fail
                  refine (HD24.out.pick (by omega) 4 (by omega)).mono ?_
                  rintro e w25 ⟨k, rfl, hk, d25, _⟩
                  have HD25 := hid d25
                  clear d25
                  go_wp2_with fail
                  go_meet
                  case rel => exact ⟨_, rfl, HD25.out⟩
                · go_wp2_with fail
                  go_meet
                  case rel => exact ⟨_, rfl, HD24.out.mono (by omega)⟩
              case rest =>
                obtain ⟨bv3, rfl, d26⟩ := hcut
                obtain ⟨w26, hw26⟩ : ∃ w26, w26 = wc := ⟨_, rfl⟩
                rw [← hw26] at d26 ⊢
                clear hw26 HD24
                have HD26 := hid d26
                clear d26
                go_upto_if 111 with fail
                go_cut [6] (fun v wx => v = .int .i64 (1 + (x : Int)) ∧ DS R W1 ga gb 81 wx)
                case first =>
                  obtain ⟨ta, na, sa, ea, ha⟩ := HD26.out.a
                  obtain ⟨x0, x1, x2, _, _, _⟩ := at_vbox ea
                  obtain ⟨tb, nb, sb, eb, hb⟩ := HD26.out.b
                  obtain ⟨z0, z1, z2, y0, y1, y2⟩ := at_vbox eb
                  clear ea eb
                  cases bv3
                  · go_wp2_with fail
                    go_meet
                    case rel => exact ⟨rfl, HD26.out⟩
                  · go_wp2_with fail
                    go_meet
                    case rel => exact ⟨rfl, HD26.out.copyB ta na sa ha⟩
                case rest =>
                  obtain ⟨rfl, d27⟩ := hcut
                  obtain ⟨w27, hw27⟩ : ∃ w27, w27 = wc := ⟨_, rfl⟩
                  rw [← hw27] at d27 ⊢
                  clear hw27 HD26
                  have HD27 := hid d27
                  clear d27
                  go_wp2_with fail
                  refine (HD27.out.pick (by omega) 24 (by omega)).mono ?_
                  rintro e w28 ⟨k, rfl, hk, d28, _⟩
                  have HD28 := hid d28
                  clear d28 HD27
                  go_upto_if 115 with fail
                  go_cut [6] (fun v wx => ∃ op : Int, v = .int .i64 op ∧ DS R W1 ga gb 90 wx)
                  case first =>
                    go_wp2_with fail
                    · refine (HD28.out.pick (by omega) 22 (by omega)).mono ?_
                      rintro e w29 ⟨j, rfl, hj, d29, _⟩
                      have HD29 := hid d29
                      clear d29
                      go_wp2_with fail
                      go_meet
                      case rel => exact ⟨_, rfl, HD29.out.mono (by omega)⟩
                    · go_meet
                      case rel => exact ⟨_, rfl, HD28.out.mono (by omega)⟩
                  case rest =>
                    obtain ⟨op, rfl, d30⟩ := hcut
                    obtain ⟨w30, hw30⟩ : ∃ w30, w30 = wc := ⟨_, rfl⟩
                    rw [← hw30] at d30 ⊢
                    clear hw30 HD28
                    have HD30 := hid d30
                    clear d30
                    have hR2 := HR2.out
                    have HSB : Hid (Below w.heap.size w w30) := by
                      obtain ⟨_, _, _, hsv⟩ := HD30.out.at_
                      exact HB1.out.trans (hsv.below (by have := HB1.out.size; omega) (fun k hk => by omega))
                    have l1 := HD30.out.la
                    have l2 := HD30.out.lb
                    have d1 : ¬ w.heap.size = ga := by omega
                    have d2 : ¬ ga = w.heap.size := by omega
                    have d3 : ¬ w.heap.size = gb := by omega
                    have d4 : ¬ gb = w.heap.size := by omega
                    have d5 : ¬ w.heap.size + 1 = ga := by omega
                    have d6 : ¬ ga = w.heap.size + 1 := by omega
                    have d7 : ¬ w.heap.size + 1 = gb := by omega
                    have d8 : ¬ gb = w.heap.size + 1 := by omega
                    obtain ⟨ta, na, sa, ea, ha⟩ := HD30.out.a
                    obtain ⟨x0, x1, x2, _, _, _⟩ := at_vbox ea
                    obtain ⟨tb, nb, sb, eb, hb⟩ := HD30.out.b
                    obtain ⟨z0, z1, z2, _, _, _⟩ := at_vbox eb
                    obtain ⟨r0, r1, r2, f0, f1, f2⟩ := at_vbox (HD30.out.at_.heap HR3.out (by omega))
                    obtain ⟨q0, q1, q2, e0, e1, e2⟩ := at_vbox (HD30.out.at_.heap HR4.out (by omega))
                    clear ea eb hR2 l1 l2
                    go_upto_region 25 with fail
                    go_region
                    go_wp2
                    exact bodyPost_ret (v := .tuple #[.int .i64 op, val ta na sa, val tb nb sb]) (by simp [results, Tryz.results4, go_sem, r0, r1, r2, q0, q1, q2]) rfl ⟨op, ta, na, sa, tb, nb, sb, rfl, ha, hb, (setr (by omega) (setr (Nat.le_refl _) HSB.out _ _ _) _ _ _).drew⟩
end Go.Proofs.YtabefhpgeaihgaaGreatDoor.V
