import Derived.Test.YtpligndiomblhaaPlHold
/-! Looks that are answered so: all of them, by both sides. -/
namespace Go.Proofs.Ytpligndiomblhaa.P
open Go.RowKit
open Go.Proofs.Ytpligndiomblhaa.J (Says says_t says_f FileOk Says.pos Says.neg)
open Go.Proofs.Ytpligndiomblhaa.R (hid small set_other Fl fl0 Sn sn0 lt_hp hp_next B1 B2 row_cell row_room SFlR SSnR OkFlS below_drewN below_set Gr wp_region_gr Calls.gr_of)
set_option maxRecDepth 20000
/-- What the sizes give. -/
def LowS (ls : List Sn) : Prop := ls.length ≤ 1048576 ∧ ∀ i, i < ls.length → (ls.getD i sn0).name.size ≤ 1048576
theorem lowS_of {l : List Sn} (h : R.wSSn l l.length ≤ 1048576) : LowS l := by
  refine ⟨Nat.le_trans (R.wSSn_ge l _) h, fun i hi => ?_⟩
  have h1 := R.wSSn_at l hi
  simp only [R.wSn] at h1
  omega
def All (F : Int → ByteArray → Int × ByteArray) (ls : List Sn) : Prop := ∀ i, i < ls.length → One F (ls.getD i sn0)
def IxEnd (F : Int → ByteArray → Int × ByteArray) (ls : List Sn) (w : World) (e : Ending) (w' : World) : Prop := ∃ r : Int, e = .returned (.int .i64 r) ∧ (0 ≤ r ↔ ¬ All F ls) ∧ Below w.heap.size w w'
set_option maxHeartbeats 4000000 in
theorem idx_any (ls : List Sn) {sv : Value} {p B' B b : Nat} {ns : List ByteArray} {f : ByteArray → Option Fl} {k m : Nat} {v : Value} {w : World} (h1 : SSnR B' w sv ls) (hL : LowS ls) (hp : w.cell? ⟨p, 0, none⟩ = some (.pointer (some ⟨b, 0, none⟩))) (hpl : p < w.heap.size) (h : Bx B b ns f k v m w) (hN : ns.length ≤ 1000) (hn : ∀ n ∈ ns, n.size ≤ 1048576) :
    Calls Try.prog 55 #[sv, .func (.func 37) #[] #[.pointer (some ⟨p, 0, none⟩)]] w (IxEnd (seeR ns f) ls w) := by
  have H1 := hid h1
  have HL := hid hL
  have HM := hid hn
  have HB := hid h
  have HP := hid hp
  have hll := hL.1
  obtain ⟨g, rfl⟩ := h1.sl
  clear h1 hL hn h hp
  go_enter Try.func55, Try.ntmps55
  go_wp2_with fail
  go_loopw [5, 8] (fun _ i wr => ∃ j : Nat, j ≤ ls.length ∧ i = .int .i64 j ∧ Below w.heap.size w wr ∧ ∀ q, q < j → One (seeR ns f) (ls.getD q sn0)) (fun _ i _ => ls.length - (intOf i).toNat)
  case atStart => exact ⟨0, Nat.zero_le _, rfl, Below.refl _ _, fun p hp => absurd hp (Nat.not_lt_zero _)⟩
  case round =>
    obtain ⟨j, hj, rfl, hlo, hall⟩ := hrel
    have HLO := hid hlo
    have HALL := hid hall
    clear hlo hall
    by_cases hlt : j < ls.length
    · obtain ⟨_, a0, a1, a2, a3⟩ := sn_at (H1.out.next HLO.out) hlt
      have HSZ := hid (HL.out.2 j hlt)
      have HNO : Hid (¬ One (seeR ns f) (ls.getD j sn0) → ¬ All (seeR ns f) ls) := hid fun h1 h2 => h1 (h2 j hlt)
      have HYE : Hid (One (seeR ns f) (ls.getD j sn0) → ∀ q, q < j + 1 → One (seeR ns f) (ls.getD q sn0)) := hid fun h => all_step HALL.out h
      obtain ⟨x, hxe⟩ : ∃ x, ls.getD j sn0 = x := ⟨_, rfl⟩
      rw [hxe] at a0 a1 a2 a3 HSZ HNO HYE
      clear hxe
      go_wp2_with fail
      refine (one_any x ((HLO.out.cell (p := ⟨p, 0, none⟩) hpl).trans HP.out) (Nat.lt_of_lt_of_le hpl HLO.out.size) (HB.out.next HLO.out) hN HM.out HSZ.out).mono ?_
      rintro e w3 ⟨hs3, hb3⟩
      have HB3 := hid (HLO.out.trans (hb3.mono HLO.out.size))
      clear hb3 a0 a1 a2 a3
      by_cases hO : One (seeR ns f) x
      · obtain rfl := hs3.neg (fun h => h hO)
        have HX := hid (HYE.out hO)
        clear hs3 hO
        go_wp2
        go_roundw
        case rel => exact ⟨j + 1, by omega, by go_num, HB3.out, HX.out⟩
        case measure => simp [intOf]; omega
      · obtain rfl := hs3.pos hO
        have HX := hid (HNO.out hO)
        clear hs3 hO
        go_wp2
        go_ret
        exact ⟨j, rfl, ⟨fun _ => HX.out, fun _ => by omega⟩, HB3.out⟩
    · obtain rfl : j = ls.length := by omega
      go_wp2
      go_ret
      exact ⟨-1, rfl, ⟨fun h => by omega, fun h => absurd HALL.out h⟩, HLO.out⟩
set_option maxHeartbeats 2000000 in
theorem contains_any (ls : List Sn) {sv : Value} {p B' B b : Nat} {ns : List ByteArray} {f : ByteArray → Option Fl} {k m : Nat} {v : Value} {w : World} (h1 : SSnR B' w sv ls) (hL : LowS ls) (hp : w.cell? ⟨p, 0, none⟩ = some (.pointer (some ⟨b, 0, none⟩))) (hpl : p < w.heap.size) (h : Bx B b ns f k v m w) (hN : ns.length ≤ 1000) (hn : ∀ n ∈ ns, n.size ≤ 1048576) :
    Calls Try.prog 36 #[sv, .func (.func 37) #[] #[.pointer (some ⟨p, 0, none⟩)]] w fun e w' => Says e (¬ All (seeR ns f) ls) ∧ Below w.heap.size w w' := by
  have HI := hid (idx_any ls h1 hL hp hpl h hN hn)
  obtain ⟨g, rfl⟩ := h1.sl
  clear h1 hL hp h hn
  go_enter Try.func36, Try.ntmps36
  go_wp2_with fail
  refine HI.out.mono ?_
  rintro e w2 ⟨r, rfl, hr, hb2⟩
  have HR := hid hr
  have HB2 := hid hb2
  clear hr hb2
  by_cases h0 : 0 ≤ r
  · have h0b : decide (0 ≤ r) = true := decide_eq_true h0
    go_wp2
    go_ret
    exact ⟨says_t (HR.out.1 h0), HB2.out⟩
  · have h0b : decide (0 ≤ r) = false := decide_eq_false h0
    go_wp2
    go_ret
    exact ⟨says_f (fun h => by have := HR.out.2 h; omega), HB2.out⟩
/-- What Holds says. -/
def HoldsP (l : List Fl) (ls : List Sn) : Prop := PlOk l ∧ All (seeP l) ls
set_option maxHeartbeats 4000000 in
theorem implHolds_any (l : List Fl) (ls : List Sn) {v sv : Value} {B B' : Nat} (w : World) (hx : LowF l) (hL : LowS ls) (k0 : SFlR B w v l) (k1 : SSnR B' w sv ls) :
    Calls Try.prog 18 #[.agg #[v], sv] w fun e w' => Says e (HoldsP l ls) ∧ Below w.heap.size w w' := by
  have HX := hid hx
  have HL := hid hL
  have HS := hid (B1.start w (.cells #[v] 29))
  have HK := hid (k0.next HS.out.lo)
  have HK1 := hid (k1.next HS.out.lo)
  obtain ⟨g, rfl⟩ := k0.sl
  obtain ⟨g1, rfl⟩ := k1.sl
  clear k0 k1 hx hL
  obtain ⟨W0, hW0⟩ : ∃ W, w.alloc (.cells #[.slice (some ⟨g, 0, none⟩) l.length l.length] 29) = W := ⟨_, rfl⟩
  rw [hW0] at HS HK HK1
  have a0 : W0.cell? ⟨w.heap.size, 0, none⟩ = some (.slice (some ⟨g, 0, none⟩) l.length l.length) := row_cell HS.out.e 0
  go_enter Try.func18, Try.ntmps18
  go_wp2_with fail
  clear hW0
  refine (implPlace_any l _ HX.out HK.out).mono ?_
  rintro e w2 ⟨hsy, hb2⟩
  have HS2 := hid (HS.out.next hb2)
  have HK2 := hid (HK.out.next hb2)
  have HK12 := hid (HK1.out.next hb2)
  clear hb2 a0
  by_cases hP : PlOk l
  · obtain rfl := hsy.pos hP
    clear hsy
    have HP := hid hP
    have h40 := hP.1
    clear hP
    have a0 : w2.cell? ⟨w.heap.size, 0, none⟩ = some (.slice (some ⟨g, 0, none⟩) l.length l.length) := row_cell HS2.out.e 0
    go_wp2_with fail
    refine (new_any l HK2.out HX.out (by omega)).mono ?_
    rintro e w3 ⟨b, v, m, rfl, hbx, hb3⟩
    have HS3 := hid (HS2.out.next hb3)
    have HK13 := hid (HK12.out.next hb3)
    have HA3 := hid (B1.start w3 (.cells #[.pointer (some ⟨b, 0, none⟩)] 58))
    have HBX := hid (hbx.next HA3.out.lo)
    clear hbx hb3 a0
    have HLN : Hid ((layN [] l).length ≤ 1000) := hid (by have := layN_len l []; simp at this; omega)
    have HSZ := hid (lay_sizes (M := 1048576) l [] (fun n hn => by cases hn) (fun x hx => (mem_low HX.out x hx).1))
    have HCT := hid (contains_any ls (HK13.out.next HA3.out.lo) HL.out (row_cell HA3.out.e 0) (lt_hp HA3.out.e) HBX.out HLN.out HSZ.out)
    go_wp2_with fail
    refine HCT.out.mono ?_
    rintro e w4 ⟨hs4, hb4⟩
    have HB4 := hid ((HS3.out.next HA3.out.lo).next hb4)
    clear hb4
    by_cases hA : All (seeP l) ls
    · obtain rfl := hs4.neg (fun h => h hA)
      clear hs4
      go_wp2
      go_ret
      exact ⟨says_t ⟨HP.out, hA⟩, HB4.out.lo⟩
    · obtain rfl := hs4.pos hA
      clear hs4
      go_wp2
      go_ret
      exact ⟨says_f fun h => hA h.2, HB4.out.lo⟩
  · obtain rfl := hsy.neg hP
    clear hsy
    go_wp2
    go_ret
    exact ⟨says_f fun h => hP h.1, HS2.out.lo⟩
end Go.Proofs.Ytpligndiomblhaa.P
