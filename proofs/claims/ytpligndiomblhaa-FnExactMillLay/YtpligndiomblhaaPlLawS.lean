import Derived.Test.YtpligndiomblhaaPlSpecS
import Derived.Test.YtpligndiomblhaaPlLawV
import Derived.Test.YtpligndiomblhaaRkEqRy
/-! The law of See. -/
namespace Go.Proofs.Ytpligndiomblhaa.P
open Go.RowKit
open Go.Proofs.Ytpligndiomblhaa.R (hid small Fl fl0 OkFlS SFlR SFlA row_cell B1)
set_option maxRecDepth 20000
/-- Both sides answer the same. -/
theorem see_same {l : List Fl} {kind : Int} {t : ByteArray} {r r' : Int × ByteArray} (h : (PlOk l ∧ r = seeP l kind t) ∨ (¬ PlOk l ∧ r = (5, emp))) (h' : (PlOk l ∧ r' = seeR (nms l) (findF l) kind t) ∨ (¬ PlOk l ∧ r' = (5, emp))) : r = r' := by
  rcases h with ⟨h1, h2⟩ | ⟨h1, h2⟩
  · rcases h' with ⟨_, h4⟩ | ⟨h3, _⟩
    · rw [h2, h4, seeP_of h1]
    · exact absurd h1 h3
  · rcases h' with ⟨h3, _⟩ | ⟨_, h4⟩
    · exact absurd h3 h1
    · rw [h2, h4]
set_option maxHeartbeats 4000000 in
theorem law_see {l : List Fl} (kind : Int) (t : ByteArray) {w : World} {cv : Value} (hA : SFlA w cv l) (hO : OkFlS l) (ht : t.size ≤ maxLen) :
    Calls Try.prog 4 #[.agg #[cv], .int .i64 kind, .string t] w fun e w' => e = .returned (.bool true) ∧ Below w.heap.size w w' := by
  have HO := hid hO
  have HX := hid (B1.start w (.cells #[cv] 24))
  have HA := hid (hA.next HX.out.lo)
  obtain ⟨ad, cp, rfl⟩ := hA.sl
  clear hA hO
  have ht63 := small ht
  clear ht
  obtain ⟨W0, hW0⟩ : ∃ W, w.alloc (.cells #[.slice ad l.length cp] 24) = W := ⟨_, rfl⟩
  rw [hW0] at HX HA
  have k0 : W0.cell? ⟨w.heap.size, 0, none⟩ = some (.slice ad l.length cp) := row_cell HX.out.e 0
  by_cases hts : t.size ≤ 1048576
  · have hts2 : ¬ (1048576 : Int) < (t.size : Int) := by omega
    go_enter Try.func4, Try.ntmps4
    go_wp2_with fail
    clear hW0
    refine (R.szPl_any ⟨l⟩ 1048576 W0 (by omega) (by omega) HO.out HA.out).mono ?_
    rintro e w1 ⟨⟨r, rfl, _, _, h3⟩, hb1⟩
    have HX1 := hid (HX.out.next hb1)
    have HN1 := hid hb1
    have H3 := hid h3
    clear hb1 h3 k0
    have k0 : w1.cell? ⟨w.heap.size, 0, none⟩ = some (.slice ad l.length cp) := row_cell HX1.out.e 0
    by_cases hr : r < 0
    · go_wp2
      go_ret
      exact ⟨rfl, HX1.out.lo⟩
    · have HWT : Hid (R.wSFl l l.length ≤ 1048576) := by
        have h9 := H3.out (by omega)
        have h8 : R.wPl ⟨l⟩ ≤ 1048576 := by omega
        show _ ≤ _
        simpa [R.wPl] using h8
      have HLO := hid (R.loFlS_of HWT.out)
      have HLF := hid (lowF_of HWT.out)
      go_wp2_with fail
      refine (R.toPl_any ⟨l⟩ w1 HLO.out (HA.out.next HN1.out)).mono ?_
      rintro e w2 ⟨u2, rfl, n2, hb2⟩
      have HX2 := hid (HX1.out.next hb2)
      have HN2 := hid (HN1.out.trans (hb2.mono HN1.out.size))
      have HR2 := hid n2
      obtain ⟨g2, rfl⟩ := n2.sl
      clear hb2 n2 k0
      go_wp2_with fail
      refine (specSee_any l kind t _ HO.out HLF.out.1 hts HR2.out).mono ?_
      rintro e w3 ⟨⟨rc, rt⟩, ⟨rfl, hb3⟩, hv3⟩
      have HX3 := hid (HX2.out.next hb3)
      have HN3 := hid (HN2.out.trans (hb3.mono HN2.out.size))
      have HV3 := hid hv3
      clear hb3 hv3
      dsimp only
      have HY3 := hid (B1.start w3 (.cells #[.int .i64 rc, .string rt] 34))
      have HX3a := hid (HX3.out.next HY3.out.lo)
      have HN3a := hid (HN3.out.trans (HY3.out.lo.mono HN3.out.size))
      obtain ⟨V3, hV3⟩ : ∃ V, w3.alloc (.cells #[.int .i64 rc, .string rt] 34) = V := ⟨_, rfl⟩
      rw [hV3] at HY3 HX3a HN3a
      have k0 : V3.cell? ⟨w.heap.size, 0, none⟩ = some (.slice ad l.length cp) := row_cell HX3a.out.e 0
      go_wp2_with fail
      clear hV3
      refine (R.toPl_any ⟨l⟩ V3 HLO.out (HA.out.next HN3a.out)).mono ?_
      rintro e w4 ⟨u4, rfl, n4, hb4⟩
      have HX4 := hid (HX3a.out.next hb4)
      have HY4 := hid (HY3.out.next hb4)
      have HN4 := hid (HN3a.out.trans (hb4.mono HN3a.out.size))
      have HR4 := hid (n4.mono (B' := 0) (Nat.zero_le _))
      obtain ⟨g4, rfl⟩ := n4.sl
      clear hb4 n4 k0
      have HA4 := hid (B1.start w4 (.cells #[.slice (some ⟨g4, 0, none⟩) l.length l.length] 29))
      go_wp2_with fail
      have HX4a := hid (HX4.out.next HA4.out.lo)
      have HY4a := hid (HY4.out.next HA4.out.lo)
      have HN4a := hid (HN4.out.trans (HA4.out.lo.mono HN4.out.size))
      refine (implSee_any l kind t _ HLF.out hts (HR4.out.next HA4.out.lo)).mono ?_
      rintro e w5 ⟨r5, ⟨rfl, hb5⟩, hv5⟩
      obtain rfl := see_same hv5 HV3.out
      have HX5 := hid (HX4a.out.next hb5)
      have HA5 := hid (HA4.out.next hb5)
      have HY5 := hid (HY4a.out.next hb5)
      have HN5 := hid (HN4a.out.trans (hb5.mono HN4a.out.size))
      clear hb5 hv5
      dsimp only
      have HZ5 := hid (B1.start w5 (.cells #[.int .i64 rc, .string rt] 34))
      have HX6 := hid (HX5.out.next HZ5.out.lo)
      have HA6 := hid (HA5.out.next HZ5.out.lo)
      have HY6 := hid (HY5.out.next HZ5.out.lo)
      have HN6 := hid (HN5.out.trans (HZ5.out.lo.mono HN5.out.size))
      obtain ⟨V6, hV6⟩ : ∃ V, w5.alloc (.cells #[.int .i64 rc, .string rt] 34) = V := ⟨_, rfl⟩
      rw [hV6] at HZ5 HX6 HA6 HY6 HN6
      have c0 : V6.cell? ⟨w5.heap.size, 0, none⟩ = some (.int .i64 rc) := row_cell HZ5.out.e 0
      have c1 : V6.cell? ⟨w5.heap.size, 1, none⟩ = some (.string rt) := row_cell HZ5.out.e 1
      have d0 : V6.cell? ⟨w3.heap.size, 0, none⟩ = some (.int .i64 rc) := row_cell HY6.out.e 0
      have d1 : V6.cell? ⟨w3.heap.size, 1, none⟩ = some (.string rt) := row_cell HY6.out.e 1
      go_wp2_with fail
      clear hV6
      refine (R.eqRy_same ⟨rc, rt⟩ V6).mono ?_
      rintro e w7 ⟨rfl, hb7⟩
      have HX7 := hid (HX6.out.next hb7)
      have HA7 := hid (HA6.out.next hb7)
      have HN7 := hid (HN6.out.trans (hb7.mono HN6.out.size))
      clear hb7 c0 c1 d0 d1
      have HS6 : Hid (∀ W, Below w7.heap.size w7 W → W.cell? ⟨w.heap.size, 0, none⟩ = some (.slice ad l.length cp) ∧ W.cell? ⟨w4.heap.size, 0, none⟩ = some (.slice (some ⟨g4, 0, none⟩) l.length l.length)) := hid fun W h => ⟨row_cell (HX7.out.next h).e 0, row_cell (HA7.out.next h).e 0⟩
      go_wp2_with fail
      go_region_held3 (fun w' => w'.cell? ⟨w.heap.size, 0, none⟩ = some (.slice ad l.length cp) ∧ w'.cell? ⟨w4.heap.size, 0, none⟩ = some (.slice (some ⟨g4, 0, none⟩) l.length l.length)) (first | (exact HS6.out _ HC9.out) | (exact HS6.out _ HC8.out) | (exact HS6.out _ (Below.refl _ _).drew) | go_keep) (first
        | (go_at_call 9; refine (R.toPl_any ⟨l⟩ _ HLO.out (HA.out.next HN7.out.drew)).mono ?_; rintro e w8 ⟨u8, rfl, n8, hb8⟩; have HC8 := hid ((Below.refl w7.heap.size w7).drew.trans hb8); have NA8 := hid (n8.mono (B' := 0) (Nat.zero_le _)); obtain ⟨g8, rfl⟩ := n8.sl; clear n8 hb8)
        | (go_at_call 11; refine (R.eqPl_same ⟨l⟩ _ HLO.out (HR4.out.next (HA7.out.lo.trans (HC8.out.mono HA7.out.lo.size))) NA8.out).mono ?_; rintro e w9 ⟨rfl, hb9⟩; have HC9 := hid (HC8.out.trans (hb9.mono HC8.out.size)); clear hb9) | fail)
      go_wp2
      go_ret
      exact ⟨rfl, (HX7.out.next HC9.out).lo⟩
  · have hts2 : (1048576 : Int) < (t.size : Int) := by omega
    go_enter Try.func4, Try.ntmps4
    go_wp2
    go_ret
    exact ⟨rfl, HX.out.lo⟩
end Go.Proofs.Ytpligndiomblhaa.P
