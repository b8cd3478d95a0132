import Derived.Test.YtlopcjhipajdcaaGreatDoorJ22
import Derived.Test.YtlopcjhipajdcaaGreatDoorJ23
/-! Sizes. -/
namespace Go.Proofs.YtlopcjhipajdcaaGreatDoor.R
open Go.RowKit
set_option maxRecDepth 20000
set_option maxHeartbeats 2000000 in
theorem szTu_any (x : Tu) {v0 v1 : Value} (l : Int) (w : World) (hl : 0 ≤ l) (hl2 : l ≤ 1048576) (hx : OkTu x) (k0 : SFlA w v0 x.files) (k1 : SStrA w v1 x.said) :
    Calls Tryz.prog 26 #[.agg #[.bool x.over, .int .i64 x.code, .string x.text, .int .i64 x.kind, .string x.name, .int .i64 x.steps, v0, v1], .int .i64 l] w (SzEnd l (wTu x) w) := by
  have HX := hid hx
  obtain ⟨hx0, hx1, hx2, hx3, hx4, hx5, hx6, hx7⟩ := hx
  have HB0 := hid (B1.start w (.cells #[.bool x.over, .int .i64 x.code, .string x.text, .int .i64 x.kind, .string x.name, .int .i64 x.steps, v0, v1] 28))
  have K0 := hid (k0.next HB0.out.lo)
  have K1 := hid (k1.next HB0.out.lo)
  obtain ⟨ad0, cp0, rfl⟩ := k0.sl
  obtain ⟨ad1, cp1, rfl⟩ := k1.sl
  clear k0 k1
  have hs_text := small hx2
  have hs_name := small hx4
  by_cases c2 : l - (x.text.size : Int) < 0
  · go_enter Tryz.func26, Tryz.ntmps26
    go_wp2
    go_ret
    exact ⟨⟨_, rfl, by omega, by omega, fun h => by omega⟩, HB0.out.lo⟩
  · by_cases c4 : l - (x.text.size : Int) - (x.name.size : Int) < 0
    · go_enter Tryz.func26, Tryz.ntmps26
      go_wp2
      go_ret
      exact ⟨⟨_, rfl, by omega, by omega, fun h => by omega⟩, HB0.out.lo⟩
    · go_enter Tryz.func26, Tryz.ntmps26
      go_wp2_with fail
      refine (szSFl_any x.files _ _ (by omega) (by omega) hx6 (K0.out)).mono ?_
      rintro e w1 ⟨⟨r0, rfl, p0, q0, h0⟩, hb0⟩
      have HP0 := hid h0
      have HN0 := hid hb0
      have HB1 := hid (HB0.out.next hb0)
      clear h0 hb0
      have b0_7 : w1.cell? ⟨w.heap.size, 7, none⟩ = some (.slice ad1 x.said.length cp1) := row_cell HB1.out.e 7
      by_cases c6 : r0 < 0
      · go_wp2
        go_ret
        exact ⟨⟨_, rfl, by omega, by omega, fun h => by omega⟩, HB1.out.lo⟩
      · go_wp2_with fail
        refine (szSStr_any x.said _ _ (by omega) (by omega) hx7 (K1.out.next HN0.out)).mono ?_
        rintro e w2 ⟨⟨r1, rfl, p1, q1, h1⟩, hb1⟩
        have HP1 := hid h1
        have HN1 := hid (HN0.out.trans (hb1.mono HN0.out.size))
        have HB2 := hid (HB1.out.next hb1)
        clear h1 hb1
        by_cases c7 : r1 < 0
        · go_wp2
          go_ret
          exact ⟨⟨_, rfl, by omega, by omega, fun h => by omega⟩, HB2.out.lo⟩
        · go_wp2
          go_ret
          refine ⟨⟨_, rfl, by omega, by omega, fun h => ?_⟩, HB2.out.lo⟩
          have eHP0 := HP0.out (by omega)
          have eHP1 := HP1.out (by omega)
          simp only [wTu]
          omega
end Go.Proofs.YtlopcjhipajdcaaGreatDoor.R
/-! slices.Concat of two rows of texts. -/
namespace Go.Proofs.YtlopcjhipajdcaaGreatDoor.Y
open Go.RowKit R
set_option maxRecDepth 20000
theorem grown_loB {w A V : World} {e : TypeId} {k n : Nat} {v : Value} {xs : List Value} (lo : Below w.heap.size w A) (ho : A.ownsRow w.heap.size e k v n xs) (hg : A.grownBy V v.ownBlock) : Below w.heap.size w V :=
  ⟨hg.os.trans lo.os, hg.tape.trans lo.tape, hg.output.trans lo.output, Nat.le_trans lo.size hg.size, fun i hi => (hg.block i (Nat.lt_of_lt_of_le hi lo.size) (by
    obtain ⟨_, ⟨rfl, _⟩ | ⟨g, cap, cur, rfl, hb, _⟩⟩ := ho
    · simp [Value.ownBlock]
    · simp [Value.ownBlock]; omega)).trans (lo.block i hi)⟩
set_option maxHeartbeats 4000000 in
theorem concat2_any (x y : List ByteArray) {v0 v1 : Value} (g : Nat) (w : World) (hx1 : 1 ≤ x.length) (hx : x.length ≤ 2) (hy : y.length ≤ 1048576) (hg : g < w.heap.size)
    (hc0 : w.cell? ⟨g, 0, none⟩ = some v0) (hc1 : w.cell? ⟨g, 1, none⟩ = some v1) (k0 : SStrA w v0 x) (k1 : SStrA w v1 y) :
    Calls Tryz.prog 158 #[.slice (some ⟨g, 0, none⟩) 2 2] w fun e w' => ∃ v, e = .returned v ∧ SStrA w' v (x ++ y) ∧ Below w.heap.size w w' := by
  have HC0 := hid hc0
  have HC1 := hid hc1
  have K0 := hid k0
  have K1 := hid k1
  obtain ⟨ad0, cp0, rfl⟩ := k0.sl
  obtain ⟨ad1, cp1, rfl⟩ := k1.sl
  clear hc0 hc1 k0 k1
  go_enter Tryz.func158, Tryz.ntmps158
  go_wp2
  go_loopw [3, 5, 11] (fun sz _ i wr => w = wr ∧ (i = .int .i64 0 ∧ sz = .int .i64 0 ∨ i = .int .i64 1 ∧ sz = .int .i64 x.length ∨ i = .int .i64 2 ∧ sz = .int .i64 ((x.length : Int) + (y.length : Int)))) (fun _ _ i _ => 2 - (intOf i).toNat)
  case atStart => exact ⟨rfl, .inl ⟨rfl, rfl⟩⟩
  case round =>
    obtain ⟨rfl, ⟨rfl, rfl⟩ | ⟨rfl, rfl⟩ | ⟨rfl, rfl⟩⟩ := hrel
    · have c0 := HC0.out
      have hn : ¬ ((x.length : Int) < 0) := by omega
      go_wp2
      go_roundw
      case rel => exact ⟨trivial, .inr (.inl ⟨by go_num, by go_num⟩)⟩
      case measure => simp [intOf]
    · have c0 := HC1.out
      have hn : ¬ ((x.length : Int) + (y.length : Int) < 0) := by omega
      go_wp2
      go_roundw
      case rel => exact ⟨trivial, .inr (.inr ⟨by go_num, by go_num⟩)⟩
      case measure => simp [intOf]
    · obtain ⟨n, hn⟩ : ∃ n : Nat, x.length + y.length = n := ⟨_, rfl⟩
      have he : (x.length : Int) + (y.length : Int) = (n : Int) := by omega
      rw [he]
      have HG := hid (grow0_any w n (by omega) (by omega))
      go_wp2_with fail
      refine HG.out.mono ?_
      rintro e W1 ⟨v, rfl, ⟨gv, cv, rfl⟩, hown, hb⟩
      have HO := hid hown
      have HB := hid hb
      clear hown hb
      go_wp2_with fail
      go_loopw [6, 8, 27] (fun nw _ i w2 => (i = .int .i64 0 ∧ w2.ownsRow w.heap.size 9 1 nw 0 [] ∨ i = .int .i64 1 ∧ w2.ownsRow w.heap.size 9 1 nw x.length (x.map Value.string) ∨ i = .int .i64 2 ∧ w2.ownsRow w.heap.size 9 1 nw (x ++ y).length ((x ++ y).map Value.string)) ∧ Below w.heap.size w w2) (fun _ _ i _ => 2 - (intOf i).toNat)
      case atStart => exact ⟨.inl ⟨rfl, HO.out⟩, HB.out⟩
      case round =>
        obtain ⟨⟨rfl, ho⟩ | ⟨rfl, ho⟩ | ⟨rfl, ho⟩, hbw⟩ := hrel
        · have HBW := hid hbw
          have HOW := hid ho
          have c0 := (HBW.out.cell (p := ⟨g, 0, none⟩) hg).trans HC0.out
          clear hbw ho
          go_wp2_with (at_builtin; refine wpList_append_str rfl (.tmp 31) (.tmp 32) rfl w.heap.size _ _ _ rfl HOW.out _ x rfl (K0.out.next HBW.out) (by omega) HBW.out.size ?_; intro v' w' ho' hg'; have HO' := hid ho'; have HB' := hid (grown_loB HBW.out HOW.out hg'); clear ho' hg' c0)
          go_roundw
          case rel => exact ⟨.inr (.inl ⟨by go_num, by have := HO'.out; rwa [Nat.zero_add, List.nil_append] at this⟩), HB'.out⟩
          case measure => simp [intOf]
        · have HBW := hid hbw
          have HOW := hid ho
          have c0 := (HBW.out.cell (p := ⟨g, 1, none⟩) hg).trans HC1.out
          clear hbw ho
          go_wp2_with (at_builtin; refine wpList_append_str rfl (.tmp 31) (.tmp 32) rfl w.heap.size _ _ _ rfl HOW.out _ y rfl (K1.out.next HBW.out) (by omega) HBW.out.size ?_; intro v' w' ho' hg'; have HO' := hid ho'; have HB' := hid (grown_loB HBW.out HOW.out hg'); clear ho' hg' c0)
          go_roundw
          case rel => exact ⟨.inr (.inr ⟨by go_num, by have := HO'.out; rwa [← List.map_append, ← List.length_append] at this⟩), HB'.out⟩
          case measure => simp [intOf]
        · have HBW := hid hbw
          have HOW := hid ho
          clear hbw ho
          go_wp2
          go_ret
          exact ⟨_, rfl, own_str HOW.out, HBW.out⟩
end Go.Proofs.YtlopcjhipajdcaaGreatDoor.Y
