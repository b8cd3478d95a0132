import Derived.Deep.RegionHeld3
import Derived.Deep.DeepCutAuto
import Derived.Test.YtfookokepnnmoaaDoorJDAny
import Derived.Test.YtfookokepnnmoaaDoorJQuiet
namespace Go.Proofs.YtfookokepnnmoaaDoor
open Go.RowKit
set_option maxRecDepth 20000
/-- The variables of DrawClayOrder. -/
def OS (R : Nat) (w W : World) (q ba bb : Nat) (sa sb : Value) (la lb : List At) : Prop :=
  Rd R W q ∧ Below w.heap.size w W ∧ VAt W w.heap.size (.slice none 0 0) ∧ VAt W (w.heap.size + 1) (.slice none 0 0) ∧ VAt W ba sa ∧ VAt W bb sb ∧ ValIn R W sa la ∧ ValIn R W sb lb ∧ TxOk 2000 la ∧ TxOk 2000 lb ∧ w.heap.size + 2 ≤ R ∧ R < ba ∧ ba < bb
theorem OS.drew {R q q' ba bb : Nat} {w W W' : World} {sa sb : Value} {la lb : List At} (h : OS R w W q ba bb sa sb la lb) (hs : Sv (fun k => k = R) W W') (hr : Rd R W' q') : OS R w W' q' ba bb sa sb la lb := by
  obtain ⟨h1, h2, h3, h4, h5, h6, h7, h8, h9, h10, h11, h12, h13⟩ := h
  exact ⟨hr, h2.trans (hs.below h2.size (fun k e => by omega)), h3.sv hs (by omega), h4.sv hs (by omega), h5.sv hs (by omega), h6.sv hs (by omega), h7.sv hs, h8.sv hs, h9, h10, h11, h12, h13⟩
theorem OS.next {R q ba bb : Nat} {w W W' : World} {sa sb : Value} {la lb : List At} (h : OS R w W q ba bb sa sb la lb) (hb : Below W.heap.size W W') : OS R w W' q ba bb sa sb la lb := h.drew (Sv.of_below hb) (h.1.next hb)
theorem OS.cells {R q ba bb : Nat} {w W : World} {sa sb : Value} {la lb : List At} (h : OS R w W q ba bb sa sb la lb) : (W.cell? ⟨ba, 0, none⟩ = some sa ∧ W.cell? ⟨bb, 0, none⟩ = some sb ∧ W.frozen? ⟨bb, 0, none⟩ = false) ∧ (W.cell? ⟨w.heap.size, 0, none⟩ = some (.slice none 0 0) ∧ W.frozen? ⟨w.heap.size, 0, none⟩ = false) ∧ W.cell? ⟨w.heap.size + 1, 0, none⟩ = some (.slice none 0 0) ∧ W.frozen? ⟨w.heap.size + 1, 0, none⟩ = false :=
  ⟨⟨h.2.2.2.2.1.cells.1, h.2.2.2.2.2.1.cells⟩, h.2.2.1.cells, h.2.2.2.1.cells⟩
theorem OS.put {R q ba bb : Nat} {w W : World} {sa sb sc : Value} {la lb lc : List At} (h : OS R w W q ba bb sa sb la lb) (hv : ValIn R W sc lc) (ht : TxOk 2000 lc) : OS R w (W.setCell ⟨bb, 0, none⟩ sc) q ba bb sa sc la lc := by
  obtain ⟨h1, h2, h3, h4, h5, h6, h7, h8, h9, h10, h11, h12, h13⟩ := h
  exact ⟨h1.set (by omega), h2.setCell (by show w.heap.size ≤ bb; omega) _, h3.other (by omega), h4.other (by omega), h5.other (by omega), h6.set _, h7.set h6, hv.set h6, h9, ht, h11, h12, h13⟩
/-- What DrawClayOrder ends with. -/
def ValOut (W : World) (s : Value) (l : List At) : Prop := ∃ g o N cap, s = .slice (some ⟨g, o, none⟩) N cap ∧ l.length = N ∧ N ≤ cap ∧ cap ≤ 9223372036854775807 ∧ g < W.heap.size ∧ AtomsAt W g o l
theorem ValIn.out {R : Nat} {W : World} {s : Value} {l : List At} (h : ValIn R W s l) : ValOut W s l := by
  obtain ⟨g, o, N, cap, h1, h2, h3, h4, h5, _, h7, _⟩ := h
  exact ⟨g, o, N, cap, h1, h2, h3, h4, h5, h7⟩
theorem ValOut.next {W W' : World} {s : Value} {l : List At} (h : ValOut W s l) (hb : Below W.heap.size W W') : ValOut W' s l := by
  obtain ⟨g, o, N, cap, h1, h2, h3, h4, h5, h7⟩ := h
  exact ⟨g, o, N, cap, h1, h2, h3, h4, Nat.lt_of_lt_of_le h5 hb.size, h7.below hb h5⟩
def OrdEnd (w : World) (e : Ending) (w' : World) : Prop := ∃ sa sb la lb, e = .returned (.tuple #[.agg #[sa], .agg #[sb]]) ∧ ValOut w' sa la ∧ ValOut w' sb lb ∧ TxOk 2000 la ∧ TxOk 2000 lb ∧ Below w.heap.size w w'
theorem OS.fin {R q ba bb : Nat} {w W : World} {sa sb s1 s2 : Value} {la lb l1 l2 : List At} (h : OS R w W q ba bb sa sb la lb) (h1 : s1 = sa ∧ l1 = la ∨ s1 = sb ∧ l1 = lb) (h2 : s2 = sa ∧ l2 = la ∨ s2 = sb ∧ l2 = lb) : OrdEnd w (.returned (.tuple #[.agg #[s1], .agg #[s2]])) ((W.setCell ⟨w.heap.size, 0, none⟩ s1).setCell ⟨w.heap.size + 1, 0, none⟩ s2) := by
  have hv : ∀ s l, (s = sa ∧ l = la ∨ s = sb ∧ l = lb) → ValOut ((W.setCell ⟨w.heap.size, 0, none⟩ s1).setCell ⟨w.heap.size + 1, 0, none⟩ s2) s l ∧ TxOk 2000 l := by
    rintro s l (⟨rfl, rfl⟩ | ⟨rfl, rfl⟩)
    · exact ⟨((h.2.2.2.2.2.2.1.set h.2.2.1).set (h.2.2.2.1.other (by omega))).out, h.2.2.2.2.2.2.2.2.1⟩
    · exact ⟨((h.2.2.2.2.2.2.2.1.set h.2.2.1).set (h.2.2.2.1.other (by omega))).out, h.2.2.2.2.2.2.2.2.2.1⟩
  exact ⟨s1, s2, l1, l2, rfl, (hv s1 l1 h1).1, (hv s2 l2 h2).1, (hv s1 l1 h1).2, (hv s2 l2 h2).2, below_set (below_set h.2.1 _ _ (Nat.le_refl _) _) _ _ (by omega) _⟩
theorem OrdEnd.drew {w W : World} {e : Ending} (h : OrdEnd w e W) : OrdEnd w e W.drew := by
  obtain ⟨sa, sb, la, lb, h1, h2, h3, h4, h5, h6⟩ := h
  exact ⟨sa, sb, la, lb, h1, h2.next (Below.refl _ _).drew, h3.next (Below.refl _ _).drew, h4, h5, h6.drew⟩
theorem OS.res {R q ba bb : Nat} {w W : World} {sa sb s1 s2 : Value} {la lb : List At} (h : OS R w W q ba bb sa sb la lb) : ((W.setCell ⟨w.heap.size, 0, none⟩ s1).setCell ⟨w.heap.size + 1, 0, none⟩ s2).drew.cell? ⟨w.heap.size, 0, none⟩ = some s1 ∧ ((W.setCell ⟨w.heap.size, 0, none⟩ s1).setCell ⟨w.heap.size + 1, 0, none⟩ s2).drew.cell? ⟨w.heap.size + 1, 0, none⟩ = some s2 :=
  ⟨(((h.2.2.1.set s1).other (by omega)).next (Below.refl _ _).drew).cells.1, (((h.2.2.2.1.other (by omega)).set s2).next (Below.refl _ _).drew).cells.1⟩
set_option maxHeartbeats 8000000 in
theorem drawOrder_any (ad : Option Addr) (n cap : Nat) (w : World) (hn : n ≤ 1048576) (hc : n ≤ cap) (hcm : cap ≤ 9223372036854775807) (h : CodeA w ad n) (hnil : ad = none → n = 0 ∧ cap = 0) :
    Calls Tryd.prog 6 #[.slice ad n cap] w fun e w' => OrdEnd w e w' := by
  have HB0 := hid (below_two' w (.cells #[.slice none 0 0] 25) (.cells #[.slice none 0 0] 25))
  have HCO : Hid (CodeA ((w.alloc (.cells #[.slice none 0 0] 25)).alloc (.cells #[.slice none 0 0] 25)) ad n) := by
    rcases h with h | ⟨a, e, h1, h2⟩
    · exact .inl h
    · refine .inr ⟨a, e, by simp; omega, fun i hi => ?_⟩
      obtain ⟨x, hx⟩ := h2 i hi
      exact ⟨x, (HB0.out.cell (p := a.add i) (by rw [add_block]; exact h1)).trans hx⟩
  have HV1 : Hid (VAt ((w.alloc (.cells #[.slice none 0 0] 25)).alloc (.cells #[.slice none 0 0] 25)) w.heap.size (.slice none 0 0)) := (Below.heap_alloc _ _ _ (by simp)).trans (heap_alloc_new w _)
  have HV2 : Hid (VAt ((w.alloc (.cells #[.slice none 0 0] 25)).alloc (.cells #[.slice none 0 0] 25)) (w.heap.size + 1) (.slice none 0 0)) := by
    have := heap_alloc_new (w.alloc (.cells #[.slice none 0 0] 25)) (.cells #[.slice none 0 0] 25)
    rwa [World.size_alloc] at this
  clear h
  go_enter Tryd.func6, Tryd.ntmps6
  go_wp2_with fail
  refine (l1Open_any ad n cap _ hn hc hcm HCO.out hnil).mono ?_
  rintro e w1 ⟨rfl, hr1, hb1⟩
  simp only [World.size_alloc] at hr1
  obtain ⟨R, hR⟩ : ∃ R, w.heap.size + 1 + 1 = R := ⟨_, rfl⟩
  simp only [World.size_alloc, hR]
  rw [hR] at hr1
  have HR1 := hid hr1
  have HB1 := hid (HB0.out.trans (hb1.mono HB0.out.size))
  have HV1a := hid (HV1.out.next hb1)
  have HV2a := hid (HV2.out.next hb1)
  clear hr1 hb1 hnil HCO HV1 HV2 HB0
  go_wp2_with fail
  refine (l5Any_any R 0 _ (by omega) HR1.out).mono ?_
  rintro e w2 ⟨sa, la, rfl, hva, hta, q2, _, hq2, hr2, hs2⟩
  have HR2 := hid hr2
  have HVA := hid hva
  have HB2 := hid (HB1.out.trans (hs2.below HB1.out.size (fun k e => by omega)))
  have HV1b := hid (HV1a.out.sv hs2 (by omega))
  have HV2b := hid (HV2a.out.sv hs2 (by omega))
  obtain ⟨ga, oa, Na, ca, rfl, hNa, _⟩ := hva
  have hzR : R < w2.heap.size := hr2.lt
  clear hr2 hs2 HV1a HV2a
  go_wp2_with fail
  have HAA := hid ((Below.refl w2.heap.size w2).alloc (Nat.le_refl _) (.cells #[.slice (some ⟨ga, oa, none⟩) Na ca] 25))
  have HCA : Hid (VAt (w2.alloc (.cells #[.slice (some ⟨ga, oa, none⟩) Na ca] 25)) w2.heap.size (.slice (some ⟨ga, oa, none⟩) Na ca)) := heap_alloc_new w2 _
  refine (l5Any_any R q2 _ (by omega) (HR2.out.next HAA.out)).mono ?_
  rintro e w3 ⟨sb, lb, rfl, hvb, htb, q3, _, hq3, hr3, hs3⟩
  have HR3 := hid hr3
  have HVB := hid hvb
  have HVA3 := hid ((HVA.out.next HAA.out).sv hs3)
  have HB3 := hid ((HB2.out.trans (HAA.out.mono HB2.out.size)).trans (hs3.below (HB2.out.trans (HAA.out.mono HB2.out.size)).size (fun k e => by omega)))
  have HV1c := hid ((HV1b.out.next HAA.out).sv hs3 (by omega))
  have HV2c := hid ((HV2b.out.next HAA.out).sv hs3 (by omega))
  have HCA3 := hid (HCA.out.sv hs3 (by omega))
  have hz3 : w2.heap.size < w3.heap.size := by have := hs3.size; simp at this; omega
  obtain ⟨gb, ob, Nb, cb, rfl, hNb, _⟩ := hvb
  clear hr3 hs3 HV1b HV2b HCA HVA HAA
  go_wp2_with fail
  have HAB := hid ((Below.refl w3.heap.size w3).alloc (Nat.le_refl _) (.cells #[.slice (some ⟨gb, ob, none⟩) Nb cb] 25))
  have HOS0 : Hid (OS R w (w3.alloc (.cells #[.slice (some ⟨gb, ob, none⟩) Nb cb] 25)) q3 w2.heap.size w3.heap.size (.slice (some ⟨ga, oa, none⟩) Na ca) (.slice (some ⟨gb, ob, none⟩) Nb cb) la lb) :=
    ⟨HR3.out.next HAB.out, HB3.out.trans (HAB.out.mono HB3.out.size), HV1c.out.next HAB.out, HV2c.out.next HAB.out, HCA3.out.next HAB.out, heap_alloc_new w3 _, HVA3.out.next HAB.out, HVB.out.next HAB.out, hta, htb, by omega, hzR, hz3⟩
  clear HR1 HB1 HR2 HB2 HR3 HVB HVA3 HB3 HV1c HV2c HCA3 HAB
  go_loopw [7] (fun i wr => ∃ (j q : Nat) (sb : Value) (lb : List At), i = .int .i64 j ∧ j ≤ 4 ∧ OS R w wr q w2.heap.size w3.heap.size (.slice (some ⟨ga, oa, none⟩) Na ca) sb la lb ∧ q ≤ 7000 + j * 4000) (fun i _ => 4 - (intOf i).toNat)
  case atStart => exact ⟨0, q3, _, _, rfl, by omega, HOS0.out, by omega⟩
  case round =>
    obtain ⟨j, q, sb, lc, rfl, hj, hos, hq⟩ := hrel
    have HOS := hid hos
    have hvb := hos.2.2.2.2.2.2.2.1
    have htc := hos.2.2.2.2.2.2.2.2.2.1
    obtain ⟨gc, oc, Nc, cc, rfl, hNc, hNcc, hccm, hgc, _, hatc, _⟩ := hvb
    have hva := hos.2.2.2.2.2.2.1
    obtain ⟨_, _, _, _, ee, hNa2, hNca, hcam, hga, _, hata, _⟩ := hva
    cases ee
    obtain ⟨⟨x1, x2, x3⟩, ⟨y1, y2⟩, y3, y4⟩ := HOS.out.cells
    clear hos
    go_upto_region 5 with fail
    go_cut [39] (fun v wx => ∃ (bv : Bool) (q' : Nat), v = .bool bv ∧ q' ≤ q + 1 ∧ (bv = true → j < 4) ∧ OS R w wx q' w2.heap.size w3.heap.size (.slice (some ⟨ga, oa, none⟩) Na ca) (.slice (some ⟨gc, oc, none⟩) Nc cc) la lc)
    case first =>
      have hnil : ∀ n, OS R w (wr.drewN n) q w2.heap.size w3.heap.size (.slice (some ⟨ga, oa, none⟩) Na ca) (.slice (some ⟨gc, oc, none⟩) Nc cc) la lc := fun n => HOS.out.next (below_drewN (Below.refl _ _) n)
      have HNIL := hid hnil
      clear hnil
      by_cases hj4 : j < 4
      · have hj4i : (j : Int) < 4 := by omega
        by_cases hNa0 : Na = 0
        · subst hNa0
          go_quiet (fail)
          go_wp2_with fail
          go_meet
          case rel => exact ⟨false, q, rfl, by omega, by simp, HNIL.out nq⟩
        · have hd1 : 0 < Na := by omega
          by_cases hNc0 : Nc = 0
          · subst hNc0
            go_quiet (fail)
            go_wp2_with fail
            go_meet
            case rel => exact ⟨false, q, rfl, by omega, by simp, HNIL.out nq⟩
          · have hd2 : 0 < Nc := by omega
            have hNa3 := hta.1
            have hNc3 := htc.1
            obtain ⟨xa, hxa⟩ : ∃ xa, la[Na - 1]? = some xa := ⟨_, List.getElem?_eq_getElem (by omega)⟩
            obtain ⟨xc, hxc⟩ : ∃ xc, lc[Nc - 1]? = some xc := ⟨_, List.getElem?_eq_getElem (by omega)⟩
            have HKA : Hid (∀ W, Below wr.heap.size wr W → Calls Tryd.prog 17 #[.agg #[.slice (some ⟨ga, oa, none⟩) Na ca]] W fun e w' => e = .returned (.int .i64 xa.kind) ∧ Below W.heap.size W w') := fun W hW => l6Kind_any ga oa Na ca xa W (by omega) (by omega) (Nat.lt_of_lt_of_le hga hW.size) ((hata.below hW hga) _ _ hxa)
            have HKC : Hid (∀ W, Below wr.heap.size wr W → Calls Tryd.prog 17 #[.agg #[.slice (some ⟨gc, oc, none⟩) Nc cc]] W fun e w' => e = .returned (.int .i64 xc.kind) ∧ Below W.heap.size W w') := fun W hW => l6Kind_any gc oc Nc cc xc W (by omega) (by omega) (Nat.lt_of_lt_of_le hgc hW.size) ((hatc.below hW hgc) _ _ hxc)
            obtain ⟨ka, hka⟩ : ∃ ka, xa.kind = ka := ⟨_, rfl⟩
            obtain ⟨kc, hkc⟩ : ∃ kc, xc.kind = kc := ⟨_, rfl⟩
            rw [hka] at HKA
            rw [hkc] at HKC
            clear hxa hxc hka hkc
            by_cases hkk : ka = kc
            · subst hkk
              have x1g := fun p : Gr wr => (HOS.out.next p.h).cells.1.1
              have x2g := fun p : Gr wr => (HOS.out.next p.h).cells.1.2.1
              have hne2 : Nonempty (Gr wr) := ⟨⟨wr, Below.refl _ _⟩⟩
              clear x1 x2 x3 y1 y2 y3 y4
              refine wp_region_gr (by kernel_rfl) (by kernel_rfl) ?_
              repeat (go_big_quiet_step (first | (go_at_call 17; refine Calls.gr_of (v := .int .i64 ka) fun hb => ?_; exact HKA.out _ hb) | (go_at_call 17; refine Calls.gr_of (v := .int .i64 ka) fun hb => ?_; exact HKC.out _ hb)))
              refine wpQuiet_nil ?_
              intro _ hw'
              obtain ⟨pw, rfl⟩ := hw'
              have HOP := hid (HOS.out.next pw.h)
              clear x1g x2g
              go_wp2_with fail
              go_meet
              case rel => exact ⟨false, q, rfl, by omega, by simp, HOP.out⟩
            · have hk1 : (ka != kc) = true := by simp [hkk]
              have HSK : Hid (∀ W q', OS R w W q' w2.heap.size w3.heap.size (.slice (some ⟨ga, oa, none⟩) Na ca) (.slice (some ⟨gc, oc, none⟩) Nc cc) la lc → W.cell? ⟨w2.heap.size, 0, none⟩ = some (.slice (some ⟨ga, oa, none⟩) Na ca) ∧ W.cell? ⟨w3.heap.size, 0, none⟩ = some (.slice (some ⟨gc, oc, none⟩) Nc cc)) := fun W q' h => ⟨h.cells.1.1, h.cells.1.2.1⟩
              go_region_held3 (fun W => W.cell? ⟨w2.heap.size, 0, none⟩ = some (.slice (some ⟨ga, oa, none⟩) Na ca) ∧ W.cell? ⟨w3.heap.size, 0, none⟩ = some (.slice (some ⟨gc, oc, none⟩) Nc cc)) (first | (exact HSK.out _ _ HOD.out) | (exact HSK.out _ _ HOC.out) | (exact HSK.out _ _ HOA.out) | go_keep) (first
                | (go_at_call 17; refine (HKA.out wr.drew (Below.refl _ _).drew).mono ?_; rintro e wA ⟨rfl, hbA⟩; have HBA := hid ((Below.refl wr.heap.size wr).drew.trans hbA); have HOA := hid (HOS.out.next HBA.out); clear hbA)
                | (go_at_call 17; refine (HKC.out wA HBA.out).mono ?_; rintro e wC ⟨rfl, hbC⟩; have HOC := hid (HOA.out.next hbC); clear hbC)
                | (go_at_call 18; refine (pick_any R q 4 _ (by omega) (by omega) HOC.out.1).mono ?_; rintro e wD ⟨⟨z, rfl, hz⟩, hrD, hsD⟩; have HOD := hid (HOC.out.drew hsD hrD); clear hrD hsD))
              go_wp2_with fail
              go_meet
              case rel => exact ⟨_, q + 1, rfl, by omega, fun _ => hj4, HOD.out⟩
      · obtain rfl : j = 4 := by omega
        go_quiet (fail)
        go_wp2_with fail
        go_meet
        case rel => exact ⟨false, q, rfl, by omega, by simp, HNIL.out nq⟩
    case rest =>
      obtain ⟨bv, q', rfl, hq', hbv, hos'⟩ := hcut
      have HO := hid hos'
      have hqb : q' ≤ 30000 := by omega
      clear hos' HOS x1 x2 x3 y1 y2 y3 y4 hatc hata
      cases bv
      · go_wp2_with fail
        refine (pick_any R q' 8 _ (by omega) (by omega) HO.out.1).mono ?_
        rintro e w5 ⟨⟨z, rfl, hz⟩, hr5, hs5⟩
        have HO5 := hid (HO.out.drew hs5 hr5)
        obtain ⟨⟨x1, x2, x3⟩, ⟨y1, y2⟩, y3, y4⟩ := HO5.out.cells
        have hbs := HO5.out.2.2.2.2.2.2.2.2.2.2
        clear hr5 hs5
        by_cases hz0 : z = 0
        · subst hz0
          go_wp2_with fail
          go_region
          all_goals go_wp2
          obtain ⟨t1, t2⟩ := HO5.out.res (s1 := .slice (some ⟨ga, oa, none⟩) Na ca) (s2 := .slice (some ⟨ga, oa, none⟩) Na ca)
          exact bodyPost_ret (v := .tuple #[.agg #[.slice (some ⟨ga, oa, none⟩) Na ca], .agg #[.slice (some ⟨ga, oa, none⟩) Na ca]]) (by simp [results, Tryd.results6, go_sem, t1, t2]) rfl (HO5.out.fin (.inl ⟨rfl, rfl⟩) (.inl ⟨rfl, rfl⟩)).drew
        · have hz0' : ((z : Int) == 0) = false := by simp; omega
          go_wp2_with fail
          go_region
          all_goals go_wp2
          obtain ⟨t1, t2⟩ := HO5.out.res (s1 := .slice (some ⟨ga, oa, none⟩) Na ca) (s2 := .slice (some ⟨gc, oc, none⟩) Nc cc)
          exact bodyPost_ret (v := .tuple #[.agg #[.slice (some ⟨ga, oa, none⟩) Na ca], .agg #[.slice (some ⟨gc, oc, none⟩) Nc cc]]) (by simp [results, Tryd.results6, go_sem, t1, t2]) rfl (HO5.out.fin (.inl ⟨rfl, rfl⟩) (.inr ⟨rfl, rfl⟩)).drew
      · have hj4 := hbv rfl
        go_wp2_with fail
        refine (l5Any_any R q' _ (by omega) HO.out.1).mono ?_
        rintro e w5 ⟨sn, ln, rfl, hvn, htn, q5, _, hq5, hr5, hs5⟩
        have HO5 := hid (HO.out.drew hs5 hr5)
        have HVN := hid hvn
        obtain ⟨⟨x1, x2, x3⟩, _⟩ := HO5.out.cells
        obtain ⟨gn, on, Nn, cn, rfl, _⟩ := hvn
        clear hr5 hs5
        go_wp2
        go_roundw
        case rel => exact ⟨j + 1, q5, _, ln, by go_num, by omega, HO5.out.put HVN.out htn, by omega⟩
        case measure => simp [intOf]; omega
end Go.Proofs.YtfookokepnnmoaaDoor
