import Derived.Test.YtpcfhbbialgcfaaHcKeys
import Derived.Test.YtpcfhbbialgcfaaHcNam2
import Derived.Test.YtpcfhbbialgcfaaPlNew
/-! The packages of a place by their names, in the program. -/
namespace Go.Proofs.Ytpcfhbbialgcfaa.P
open Go.RowKit Go.Maps Go.WideMaps
open Go.Proofs.Ytpcfhbbialgcfaa.R (hid set_other Fl fl0 lt_hp hp_next B1 B2 row_cell SFlR)
set_option maxRecDepth 20000
theorem MapF.putK {W : World} {m n : Nat} {f : ByteArray → Option Fl} (h : MapF W m n f) (hn : n < maxLen) (t : ByteArray) (x : Fl) (ht : t.size ≤ maxLen) :
    ∃ w', (Instr.mapUpdate 48 (.map (some m)) (.string t) (.agg #[.string x.name, .string x.text])).run Try.prog W = .ok () w' ∧ MapF w' m (n + 1) (setK f t x) ∧ W.grownBy w' (some m) := by
  obtain ⟨D, hown, hf⟩ := h
  obtain ⟨w', hrun, hown', hg⟩ := hown.update (string_keyed Try.underlying9) Try.underlying48 hn (keyOf_string_mk Try.underlying9 ht) (fileR_of x)
  refine ⟨w', hrun, ⟨_, hown', fun u => ?_⟩, hg⟩
  have hm := (hown.tidy (string_keyed Try.underlying9)).isMap
  unfold setK
  by_cases e : u = t
  · subst e
    rw [if_pos rfl]
    refine ⟨fun h => (by cases h), fun v' h => ?_⟩
    cases h
    exact ⟨Maps.has_put_same hm (keyT_key u) _, Maps.atKey_put_same hm (keyT_key u) _ _⟩
  · rw [if_neg e]
    refine ⟨fun h => ?_, fun v' h => ⟨?_, ?_⟩⟩
    · exact (Maps.has_put_other (keyT_ne e) _).trans ((hf u).1 h)
    · exact (Maps.has_put_other (keyT_ne e) _).trans ((hf u).2 v' h).1
    · exact (Maps.atKey_put_other (keyT_ne e) _ _).trans ((hf u).2 v' h).2
/-- The map of packages while it grows. -/
structure PB (w : World) (l : List Fl) (j : Nat) (W : World) : Prop where
  lo : Below w.heap.size w W
  mp : ∃ f n, MapF W (w.heap.size + 1) n f ∧ n ≤ j ∧ Holds f (zs (l.take j))
theorem PB.next {w : World} {l : List Fl} {j : Nat} {W V : World} (h : PB w l j W) (hb : Below W.heap.size W V) : PB w l j V := by
  obtain ⟨f, n, h1, h2⟩ := h.mp
  exact ⟨h.lo.trans (hb.mono h.lo.size), f, n, h1.keep (hb.block _ h1.lt), h2⟩
def PacksEnd (l : List Fl) (w : World) (e : Ending) (w' : World) : Prop := ∃ m f n, e = .returned (.map (some m)) ∧ w.heap.size ≤ m ∧ MapF w' m n f ∧ n ≤ l.length ∧ Holds f (zs l) ∧ Below w.heap.size w w'
theorem grown_belowK {B : Nat} {W V : World} {m : Nat} (h : W.grownBy V (some m)) (hB : B ≤ W.heap.size) (hm : B ≤ m) : Below B W V :=
  (Below.refl B W).grown h hB fun q e => by injection e with e; omega
set_option maxHeartbeats 8000000 in
theorem packs_any (l : List Fl) {pv : Value} {B : Nat} {w : World} (k0 : SFlR B w pv l) (hx : LowF l) :
    Calls Try.prog 18 #[.agg #[pv]] w (PacksEnd l w) := by
  have HK := hid k0
  have HX := hid hx
  have hll := hx.1
  obtain ⟨g, rfl⟩ := k0.sl
  clear k0 hx
  have HN0 : Hid (PB w l 0 ((w.alloc (.cells #[.slice (some ⟨g, 0, none⟩) l.length l.length] 33)).alloc (.map #[] 0))) := hid (by
    have h1 := B2.start w (.cells #[.slice (some ⟨g, 0, none⟩) l.length l.length] 33) (.map #[] 0)
    have hm := MapF.made (w.alloc (.cells #[.slice (some ⟨g, 0, none⟩) l.length l.length] 33))
    rw [World.size_alloc] at hm
    exact ⟨h1.lo, _, _, hm, Nat.le_refl _, holds_none⟩)
  have HE0 : Hid (((w.alloc (.cells #[.slice (some ⟨g, 0, none⟩) l.length l.length] 33)).alloc (.map #[] 0)).heap[w.heap.size]? = some (.cells #[.slice (some ⟨g, 0, none⟩) l.length l.length] 33)) := hid (B2.start w _ _).e
  have hmm := @run_makeMap Try.prog
  go_enter Try.func18, Try.ntmps18
  go_upto_region 2 with fail
  clear hmm
  obtain ⟨W0, hW0⟩ : ∃ W, (w.alloc (.cells #[.slice (some ⟨g, 0, none⟩) l.length l.length] 33)).alloc (.map #[] 0) = W := ⟨_, rfl⟩
  rw [hW0] at HN0 HE0 ⊢
  clear hW0
  have k0 : W0.cell? ⟨w.heap.size, 0, none⟩ = some (.slice (some ⟨g, 0, none⟩) l.length l.length) := row_cell HE0.out 0
  go_wp2
  clear k0
  go_loopw [5, 6, 7, 12] (fun _ _ _ i wr => ∃ j : Nat, j ≤ l.length ∧ i = .int .i64 j ∧ PB w l j wr) (fun _ _ _ i _ => l.length - (intOf i).toNat)
  case atStart => exact ⟨0, Nat.zero_le _, rfl, HN0.out⟩
  case round =>
    obtain ⟨j, hj, rfl, hnb⟩ := hrel
    have HNB := hid hnb
    clear hnb HN0 HE0
    by_cases hlt : j < l.length
    · obtain ⟨_, a0, a1⟩ := fl_at (HK.out.next HNB.out.lo) hlt
      have HLO := hid (HX.out.2 j hlt)
      have HZY := hid (zs_yes hlt)
      have HZN := hid (zs_no hlt)
      obtain ⟨⟨n, t⟩, hxe⟩ : ∃ x, l.getD j fl0 = x := ⟨_, rfl⟩
      rw [hxe] at a0 a1 HLO HZY HZN
      clear hxe
      dsimp only at a0 a1 HLO HZY HZN
      have HA := hid (B1.start wr (.cells #[.string n, .string t] 45))
      have HNA := hid (HNB.out.next HA.out.lo)
      go_upto_region 5 with fail
      obtain ⟨W1, hW1⟩ : ∃ W, wr.alloc (.cells #[.string n, .string t] 45) = W := ⟨_, rfl⟩
      rw [hW1] at HA HNA ⊢
      clear hW1 a0 a1
      have k0 : W1.cell? ⟨wr.heap.size, 0, none⟩ = some (.string n) := row_cell HA.out.e 0
      go_upto_region 6 with (go_at_call 35; refine (implPk_any n _ (by have := HLO.out.1; unfold maxLen; omega)).mono ?_; rintro e w2 ⟨p, b, rfl, hy, hn0, hb2⟩; have HY := hid hy; have HN := hid hn0; have HB2 := hid hb2; clear hy hn0 hb2)
      clear k0
      have HN2 := hid (HNA.out.next HB2.out)
      have HA2 := hid (HA.out.next HB2.out)
      have c0 : w2.cell? ⟨wr.heap.size, 0, none⟩ = some (.string n) := row_cell HA2.out.e 0
      have c1 : w2.cell? ⟨wr.heap.size, 1, none⟩ = some (.string t) := row_cell HA2.out.e 1
      by_cases hp : isPk n = true
      · obtain ⟨rfl, rfl⟩ := HY.out hp
        obtain ⟨f, q, hm, hq, hh⟩ := HN2.out.mp
        obtain ⟨W5, hrun, hmp, hgr⟩ := hm.putK (by unfold maxLen; omega) (cutB n) ⟨n, t⟩ (by unfold cutB; rw [ByteArray.size_extract]; have := HLO.out.1; unfold maxLen; omega)
        dsimp only at hrun
        have HNX : Hid (PB w l (j + 1) W5) := hid ⟨HN2.out.lo.trans (grown_belowK hgr HN2.out.lo.size (by omega)), _, q + 1, hmp, by omega, by rw [HZY.out hp]; exact hh.put (zs_asc _) ⟨n, t⟩⟩
        clear hm hq hh hmp hgr hp
        go_wp2
        go_roundw
        case rel => exact ⟨j + 1, by omega, by go_num, HNX.out⟩
        case measure => simp [intOf]; omega
      · have hp2 : isPk n = false := by simpa using hp
        obtain rfl := HN.out hp2
        have HNX : Hid (PB w l (j + 1) w2) := hid ⟨HN2.out.lo, by
          obtain ⟨f, q, hm, hq, hh⟩ := HN2.out.mp
          exact ⟨f, q, hm, by omega, by rw [HZN.out hp2]; exact hh⟩⟩
        clear hp hp2
        go_wp2
        go_roundw
        case rel => exact ⟨j + 1, by omega, by go_num, HNX.out⟩
        case measure => simp [intOf]; omega
    · obtain rfl : j = l.length := by omega
      obtain ⟨f, q, hm, hq, hh⟩ := HNB.out.mp
      rw [List.take_length] at hh
      have HE : Hid (PacksEnd l w (.returned (.map (some (w.heap.size + 1)))) wr) := hid ⟨_, f, q, rfl, by omega, hm, hq, hh, HNB.out.lo⟩
      clear hm hq hh
      go_wp2
      go_ret
      exact HE.out
end Go.Proofs.Ytpcfhbbialgcfaa.P
