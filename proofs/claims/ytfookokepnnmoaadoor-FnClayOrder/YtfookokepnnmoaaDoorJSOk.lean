import Derived.Deep.QuietTactic
import Derived.Test.YtfookokepnnmoaaDoorJSKids
import Derived.Test.YtfookokepnnmoaaDoorJSOkO
import Derived.Test.YtfookokepnnmoaaDoorJSOkN
import Derived.Test.YtfookokepnnmoaaDoorJSOkB
import Derived.Test.YtfookokepnnmoaaDoorJSOkI
import Derived.Test.YtfookokepnnmoaaDoorJSOkT
import Derived.Test.YtfookokepnnmoaaDoorJSOkL
namespace Go.Proofs.YtfookokepnnmoaaDoor
open Go.RowKit
set_option maxRecDepth 20000
theorem field0 (k n d : Int) (s : ByteArray) (w : World) : (Instr.field 51 (.agg #[.int .i64 k, .int .i64 n, .string s, .int .i64 d]) 0).run Tryd.prog w = .ok (.int .i64 k) w := by kernel_rfl
theorem field2 (k n d : Int) (s : ByteArray) (w : World) : (Instr.field 51 (.agg #[.int .i64 k, .int .i64 n, .string s, .int .i64 d]) 2).run Tryd.prog w = .ok (.string s) w := by kernel_rfl
/-- The last atom of a value. -/
def lastA (t : Tr) : At := ⟨t.kind, t.num, t.text, t.kids.length⟩
/-- The first q names are right. -/
def FieldsTo (ks : List Tr) (q : Nat) : Prop := ∀ i, i < q → (∃ x, ks[2 * i]? = some x ∧ x.kind = 4) ∧ (0 < i → ∃ x y, ks[2 * i - 2]? = some x ∧ ks[2 * i]? = some y ∧ less x.text.toList y.text.toList = true)
set_option maxHeartbeats 4000000 in
theorem l5Ok_R (m : Nat) (ih : OkIH m) (b o N cap : Nat) (l : List At) (above : Nat) (w : World) (hm : N ≤ m + 1) (hl : l.length = N) (hcap : N ≤ cap) (hcm : N ≤ 1048576 ∧ cap ≤ 9223372036854775807) (hN1 : 1 ≤ N) (ha12 : above ≤ 12) (hb : b < w.heap.size) (hn : AtomsAt w b o l) (hx : ∀ x ∈ l, x.text.size ≤ maxLen) (k0 n0 : Int) (t0 : ByteArray) (ks0 : List Tr) (hf0 : l = flat (.node k0 n0 t0 ks0)) (hk0 : k0 = 6) : Calls Tryd.prog 22 #[.agg #[.slice (some ⟨b, o, none⟩) N cap], .int .i64 above] w fun e w' => Says e (OkV l above) ∧ Below w.heap.size w w' := by
  have HF0 := hid hf0
  clear hf0
  have IH := hid ih
  have HN := hid hn
  have HX := hid hx
  have HL := hid hl
  have hNz : ((N : Int) == 0) = false := by simp; omega
  have ha2 : (above : Int) ≤ 12 := by omega
  clear ih hl hn hx
  have HB0 := hid (Below.refl (w.heap.size + 1) (w.alloc (.cells #[.slice (some ⟨b, o, none⟩) N cap] 25)))
  go_enter Tryd.func22, Tryd.ntmps22
  go_wp2_with fail
  refine (l5Kids_any b o N cap l _ HL.out hcap hcm (by simp; omega) (HN.out.below (btree HB0.out) hb)).mono ?_
  rintro e w1 ⟨hb1, h1⟩
  have HB1 := hid (HB0.out.trans (hb1.mono (by simp)))
  clear hb1
  have t1 := tree_cell HB1.out
  have hz1 := HB1.out.size
  have HNI : Hid (N - 1 < l.length) := by show _ < _; rw [HL.out]; omega
  obtain ⟨x, hx⟩ : ∃ x, l[N - 1]? = some x := ⟨_, List.getElem?_eq_getElem HNI.out⟩
  have HXX := hid hx
  clear hx
  have HL5 : Hid (∀ W, Below (w.heap.size + 1) (w.alloc (.cells #[.slice (some ⟨b, o, none⟩) N cap] 25)) W → Calls Tryd.prog 29 #[.agg #[.slice (some ⟨b, o, none⟩) N cap]] W fun e w' => e = .returned (atV x) ∧ Below W.heap.size W w') := fun W hW =>
    l5Last_any b o N cap x W hN1 (by omega) (by have := (btree hW).size; omega) ((HN.out.below (btree hW) hb) _ x HXX.out)
  rcases h1 with ⟨v, rfl, hno⟩ | ⟨k, n, t, ks, go, co, rfl, hfl, hgo, hrow⟩
  · exact absurd HF0.out (hno _)
  · obtain ⟨rfl, rfl, rfl, rfl⟩ : k0 = k ∧ n0 = n ∧ t0 = t ∧ ks0 = ks := by
      have := flat_inj (HF0.out.symm.trans hfl)
      injection this with h1 h2 h3 h4
      exact ⟨h1, h2, h3, h4⟩
    obtain ⟨_, hfn, hxl⟩ := flat_last hfl HL.out
    obtain rfl : x = ⟨k0, n0, t0, ks0.length⟩ := by
      have := HXX.out
      rw [hxl] at this
      cases this
      rfl
    have HFL := hid hfl
    have HFN := hid hfn
    have HROW := hid hrow
    have HOK := hid (okV_node (k := k0) (n := n0) (t := t0) (ks := ks0) (a := above))
    rw [← hfl] at HOK
    clear hfl hfn hxl hrow
    generalize hm : ks0.length = M at *
    have HM := hid hm
    have hM : M ≤ N := by
      have h1 := flats_len_ge ks0
      have h2 := HFN.out
      rw [HM.out] at h1
      omega
    have hts : t0.size ≤ maxLen := HX.out _ (List.mem_of_getElem? HXX.out)
    unfold maxLen at hts
    have HKD : Hid (∀ q (h : q < ks0.length), (flats (ks0.take q)).length + (flat ks0[q]).length + 1 ≤ N ∧ ∀ x ∈ flat ks0[q], x ∈ l) := fun q h => by
      have h1 := flats_take_le ks0 (q + 1)
      rw [flats_take_succ ks0 q h, List.length_append, HFN.out] at h1
      refine ⟨by omega, fun x hx => ?_⟩
      rw [HFL.out]
      simp only [flat]
      rw [flats_seg ks0 q h]
      simp [hx]
    have HKC : Hid (∀ W, Below w1.heap.size w1 W → ∀ q (h : q < ks0.length), W.cell? ⟨go, q, none⟩ = some (.slice (some ⟨b, o + (0 + (flats (ks0.take q)).length) * 4, none⟩) (flat ks0[q]).length (cap - (0 + (flats (ks0.take q)).length)))) := fun W hW q h => by
      rw [hW.cell (p := ⟨go, q, none⟩) HROW.out.lt, HROW.out.cell q (by rw [← HM.out]; exact h), kidRow_get _ _ _ _ _ _ h]
    have HKA : Hid (∀ W, Below w1.heap.size w1 W → ∀ q (h : q < ks0.length), AtomsAt W b (o + (0 + (flats (ks0.take q)).length) * 4) (flat ks0[q])) := fun W hW q h =>
      kid_at HFL.out ((HN.out.below (btree HB1.out) hb).below hW (by have := (btree HB1.out).size; omega)) q h
    have HCALL : Hid (∀ W, Below w1.heap.size w1 W → ∀ q (h : q < ks0.length), Calls Tryd.prog 22 #[.agg #[.slice (some ⟨b, o + (0 + (flats (ks0.take q)).length) * 4, none⟩) (flat ks0[q]).length (cap - (0 + (flats (ks0.take q)).length))], .int .i64 ((above : Int) + 1)] W fun e w' => Says e (OkV (flat ks0[q]) (above + 1)) ∧ Below W.heap.size W w') := fun W hW q h => by
      obtain ⟨h1, h2⟩ := HKD.out q h
      exact IH.out b _ _ _ (flat ks0[q]) (above + 1) W (by omega) rfl (by omega) (by omega) (by omega) (by have := hW.size; have := (btree HB1.out).size; omega) (HKA.out W hW q h) (fun x hx => HX.out x (h2 x hx))
    clear hm
    clear HF0
    have HBT : Hid (∀ W, Below w1.heap.size w1 W → Below w.heap.size w W) := fun W h => (btree HB1.out).trans (h.mono (btree HB1.out).size)
    subst hk0
    by_cases hn0 : n0 = 0
    case neg =>
      have HE : Hid (¬ OkV l above) := fun h => by
        have h1 := (HOK.out.1 h).1
        unfold LocOk at h1
        have h2 := HM.out
        have h3 : ks0 = [] → ks0.length = 0 := fun h => by rw [h]; rfl
        grind
      have hnb : (n0 != 0) = true := by simpa using hn0
      go_wp2_with (go_at_call 29; refine (HL5.out _ HB1.out).mono ?_; rintro e w2 ⟨rfl, hb2⟩; simp only [atV]; have H12 := hid hb2; have HB2 := hid (HB1.out.trans (hb2.mono (by simpa using hz1))); clear hb2)
      go_ret
      exact ⟨says_f HE.out, (btree HB2.out).alloc (btree HB2.out).size _⟩
    subst hn0
    by_cases ht0 : t0.toList = []
    case neg =>
      have HE : Hid (¬ OkV l above) := fun h => by
        have h1 := (HOK.out.1 h).1
        unfold LocOk at h1
        have h2 := HM.out
        have h3 : ks0 = [] → ks0.length = 0 := fun h => by rw [h]; rfl
        grind
      have htb := (empty_iff t0).2 ht0
      go_wp2_with (go_at_call 29; refine (HL5.out _ HB1.out).mono ?_; rintro e w2 ⟨rfl, hb2⟩; simp only [atV]; have H12 := hid hb2; have HB2 := hid (HB1.out.trans (hb2.mono (by simpa using hz1))); clear hb2)
      go_ret
      exact ⟨says_f HE.out, (btree HB2.out).alloc (btree HB2.out).size _⟩
    have htb : (t0.toList != (⟨#[]⟩ : ByteArray).toList) = false := by
      cases h : (t0.toList != (⟨#[]⟩ : ByteArray).toList)
      · rfl
      · exact absurd ht0 ((empty_iff t0).1 h)
    by_cases hs : M % 2 = 0 ∧ M ≤ 400
    · obtain ⟨hev, hs⟩ := hs
      have HLK : Hid (∀ W, Below w1.heap.size w1 W → ∀ q (h : q < ks0.length), Calls Tryd.prog 29 #[.agg #[.slice (some ⟨b, o + (0 + (flats (ks0.take q)).length) * 4, none⟩) (flat ks0[q]).length (cap - (0 + (flats (ks0.take q)).length))]] W fun e w' => e = .returned (atV (lastA ks0[q])) ∧ Below W.heap.size W w') := fun W hW q h => by
        obtain ⟨h1, h2⟩ := HKD.out q h
        obtain ⟨h3, _, h4⟩ := flat_last (congrArg flat (Tr.eta ks0[q])) rfl
        exact l5Last_any b _ _ _ (lastA ks0[q]) W h3 (by omega) (by have := hW.size; have := (btree HB1.out).size; omega) (HKA.out W hW q h _ _ h4)
      have hs2 : (M : Int) ≤ 400 := by omega
      have hev2 : ((M : Int) % 2 != 0) = false := by simp <;> omega
      have hev3 : ((M : Int).tmod 2 != 0) = false := by rw [Int.tmod_eq_emod_of_nonneg (by omega)]; exact hev2
      go_wp2_with (go_at_call 29; refine (HL5.out _ HB1.out).mono ?_; rintro e w2 ⟨rfl, hb2⟩; simp only [atV]; have H12 := hid hb2; have HB2 := hid (HB1.out.trans (hb2.mono (by simpa using hz1))); clear hb2)
      go_loopw [8] (fun i wr => ∃ q I : Nat, 2 * q = I ∧ I ≤ M ∧ i = .int .i64 I ∧ FieldsTo ks0 q ∧ Below w1.heap.size w1 wr) (fun i _ => M - (intOf i).toNat)
      case atStart => exact ⟨0, 0, rfl, Nat.zero_le _, rfl, fun i h => absurd h (Nat.not_lt_zero _), H12.out.alloc H12.out.size _⟩
      case round =>
        obtain ⟨q, I, hqI, hq, rfl, hft, hbw⟩ := hrel
        have HFT := hid hft
        have HBW := hid hbw
        have HQI := hid hqI
        clear hft hbw
        by_cases hlt : I < M
        · have hI2 : I + 2 ≤ M := by omega
          clear hqI
          have hqs : I < ks0.length := by rw [HM.out]; exact hlt
          have G1 : ∀ p : Gr wr, Below w1.heap.size w1 p.W := fun p => HBW.out.trans (p.h.mono HBW.out.size)
          have kc := fun p : Gr wr => HKC.out p.W (G1 p) I hqs
          have HC := hid (fun p : Gr wr => HLK.out p.W (G1 p) I hqs)
          obtain ⟨x2, hx2⟩ : ∃ f, ks0[I] = f := ⟨_, rfl⟩
          have HX2 : Hid (ks0[I]? = some x2) := by
            show ks0[I]? = some x2
            rw [List.getElem?_eq_getElem hqs, hx2]
          rw [hx2] at kc HC
          have hfl2 : (flat x2).length ≤ N := by have := (HKD.out I hqs).1; rw [hx2] at this; omega
          clear hx2
          unfold atV lastA at HC
          dsimp only at HC
          generalize (flats (ks0.take I)).length = A at kc HC
          simp only [Nat.zero_add] at kc HC
          generalize o + A * 4 = oA at kc HC
          generalize cap - A = cA at kc HC
          generalize (flat x2).length = nq at kc HC hfl2
          have hne2 : Nonempty (Gr wr) := ⟨⟨wr, Below.refl _ _⟩⟩
          have fd0 := field0
          have fd2 := field2
          by_cases hk4 : x2.kind = 4
          · rw [hk4] at HC
            by_cases hq0 : I = 0
            · obtain rfl : q = 0 := by have := HQI.out; omega
              subst hq0
              have NX : Hid (FieldsTo ks0 (0 + 1)) := fun i hi => by
                obtain rfl : i = 0 := by omega
                exact ⟨⟨x2, HX2.out, hk4⟩, fun h => absurd h (Nat.lt_irrefl _)⟩
              go_wp2_with fail
              refine wp_region_gr (by kernel_rfl) (by kernel_rfl) ?_
              repeat (first | go_big_quiet_step (first | (go_at_call_of 29 (Value.slice (some ⟨b, oA, none⟩) nq cA); refine Calls.gr_of (v := .agg #[.int .i64 4, .int .i64 x2.num, .string x2.text, .int .i64 x2.kids.length]) fun _ => ?_; exact HC.out _)) | quiet_step (first | (go_at_call_of 29 (Value.slice (some ⟨b, oA, none⟩) nq cA); refine Calls.gr_of (v := .agg #[.int .i64 4, .int .i64 x2.num, .string x2.text, .int .i64 x2.kids.length]) fun _ => ?_; exact HC.out _)))
              refine wpQuiet_nil ?_
              intro _ hw'
              obtain ⟨pw, rfl⟩ := hw'
              have HB4 := hid (G1 pw)
              clear kc G1
              go_wp2
              go_roundw
              case rel => exact ⟨1, 2, rfl, by omega, by go_num, NX.out, HB4.out⟩
              case measure => simp [intOf]; omega
            · have hq1 : 0 < q := by have := HQI.out; omega
              have hI3 : 2 ≤ I := by have := HQI.out; omega
              have hqs1 : I - 2 < ks0.length := by omega
              have kd := fun p : Gr wr => HKC.out p.W (G1 p) (I - 2) hqs1
              have HD := hid (fun p : Gr wr => HLK.out p.W (G1 p) (I - 2) hqs1)
              obtain ⟨x1, hx1⟩ : ∃ f, ks0[I - 2] = f := ⟨_, rfl⟩
              have HX1 : Hid (ks0[I - 2]? = some x1) := by
                show ks0[I - 2]? = some x1
                rw [List.getElem?_eq_getElem hqs1, hx1]
              rw [hx1] at kd HD
              have hfl3 : (flat x1).length ≤ N := by have := (HKD.out (I - 2) hqs1).1; rw [hx1] at this; omega
              clear hx1
              unfold atV lastA at HD
              dsimp only at HD
              generalize (flats (ks0.take (I - 2))).length = A1 at kd HD
              simp only [Nat.zero_add] at kd HD
              generalize o + A1 * 4 = oA1 at kd HD
              generalize cap - A1 = cA1 at kd HD
              generalize (flat x1).length = nq1 at kd HD hfl3
              have hgt : (0 : Int) < (I : Int) := by omega
              have hgt2 : 0 < I := by omega
              have hgt3 : decide ((0 : Int) < (I : Int)) = true := by simp; omega
              cases hls : less x1.text.toList x2.text.toList
              · have HE : Hid (¬ OkV l above) := fun h => by
                  have h1 := (HOK.out.1 h).1
                  unfold LocOk at h1
                  have h2 : Fields ks0 := by grind
                  obtain ⟨_, h3⟩ := h2 q (by have := HQI.out; omega)
                  obtain ⟨y1, y2, e1, e2, e3⟩ := h3 hq1
                  rw [HQI.out] at e1 e2
                  rw [HX1.out] at e1
                  rw [HX2.out] at e2
                  cases e1; cases e2
                  rw [hls] at e3; cases e3
                go_wp2_with fail
                refine wp_region_gr (by kernel_rfl) (by kernel_rfl) ?_
                repeat (first | go_big_quiet_step (first | (go_at_call_of 29 (Value.slice (some ⟨b, oA, none⟩) nq cA); refine Calls.gr_of (v := .agg #[.int .i64 4, .int .i64 x2.num, .string x2.text, .int .i64 x2.kids.length]) fun _ => ?_; exact HC.out _) | (go_at_call_of 29 (Value.slice (some ⟨b, oA1, none⟩) nq1 cA1); refine Calls.gr_of (v := .agg #[.int .i64 x1.kind, .int .i64 x1.num, .string x1.text, .int .i64 x1.kids.length]) fun _ => ?_; exact HD.out _)) | quiet_step (first | (go_at_call_of 29 (Value.slice (some ⟨b, oA, none⟩) nq cA); refine Calls.gr_of (v := .agg #[.int .i64 4, .int .i64 x2.num, .string x2.text, .int .i64 x2.kids.length]) fun _ => ?_; exact HC.out _) | (go_at_call_of 29 (Value.slice (some ⟨b, oA1, none⟩) nq1 cA1); refine Calls.gr_of (v := .agg #[.int .i64 x1.kind, .int .i64 x1.num, .string x1.text, .int .i64 x1.kids.length]) fun _ => ?_; exact HD.out _)))
                refine wpQuiet_nil ?_
                intro _ hw'
                obtain ⟨pw, rfl⟩ := hw'
                have HB4 := hid (G1 pw)
                clear kc kd G1
                go_wp2
                go_ret
                exact ⟨says_f HE.out, HBT.out _ HB4.out⟩
              · have NX : Hid (FieldsTo ks0 (q + 1)) := fun i hi => by
                  rcases Nat.lt_or_eq_of_le (Nat.lt_succ_iff.1 hi) with h' | h'
                  · exact HFT.out i h'
                  · subst h'
                    rw [HQI.out]
                    exact ⟨⟨x2, HX2.out, hk4⟩, fun _ => ⟨x1, x2, HX1.out, HX2.out, hls⟩⟩
                go_wp2_with fail
                refine wp_region_gr (by kernel_rfl) (by kernel_rfl) ?_
                repeat (first | go_big_quiet_step (first | (go_at_call_of 29 (Value.slice (some ⟨b, oA, none⟩) nq cA); refine Calls.gr_of (v := .agg #[.int .i64 4, .int .i64 x2.num, .string x2.text, .int .i64 x2.kids.length]) fun _ => ?_; exact HC.out _) | (go_at_call_of 29 (Value.slice (some ⟨b, oA1, none⟩) nq1 cA1); refine Calls.gr_of (v := .agg #[.int .i64 x1.kind, .int .i64 x1.num, .string x1.text, .int .i64 x1.kids.length]) fun _ => ?_; exact HD.out _)) | quiet_step (first | (go_at_call_of 29 (Value.slice (some ⟨b, oA, none⟩) nq cA); refine Calls.gr_of (v := .agg #[.int .i64 4, .int .i64 x2.num, .string x2.text, .int .i64 x2.kids.length]) fun _ => ?_; exact HC.out _) | (go_at_call_of 29 (Value.slice (some ⟨b, oA1, none⟩) nq1 cA1); refine Calls.gr_of (v := .agg #[.int .i64 x1.kind, .int .i64 x1.num, .string x1.text, .int .i64 x1.kids.length]) fun _ => ?_; exact HD.out _)))
                refine wpQuiet_nil ?_
                intro _ hw'
                obtain ⟨pw, rfl⟩ := hw'
                have HB4 := hid (G1 pw)
                clear kc kd G1
                go_wp2
                go_roundw
                case rel => exact ⟨q + 1, I + 2, by have := HQI.out; omega, by omega, by go_num, NX.out, HB4.out⟩
                case measure => simp [intOf]; omega
          · have HE : Hid (¬ OkV l above) := fun h => by
              have h1 := (HOK.out.1 h).1
              unfold LocOk at h1
              have h2 : Fields ks0 := by grind
              obtain ⟨⟨y, hy, hyk⟩, _⟩ := h2 q (by rw [HQI.out]; exact hqs)
              rw [HQI.out, HX2.out] at hy
              cases hy
              exact hk4 hyk
            have hkb : (x2.kind != 4) = true := by simpa using hk4
            go_wp2_with fail
            refine wp_region_gr (by kernel_rfl) (by kernel_rfl) ?_
            repeat (first | go_big_quiet_step (first | (go_at_call_of 29 (Value.slice (some ⟨b, oA, none⟩) nq cA); refine Calls.gr_of (v := .agg #[.int .i64 x2.kind, .int .i64 x2.num, .string x2.text, .int .i64 x2.kids.length]) fun _ => ?_; exact HC.out _)) | quiet_step (first | (go_at_call_of 29 (Value.slice (some ⟨b, oA, none⟩) nq cA); refine Calls.gr_of (v := .agg #[.int .i64 x2.kind, .int .i64 x2.num, .string x2.text, .int .i64 x2.kids.length]) fun _ => ?_; exact HC.out _)))
            refine wpQuiet_nil ?_
            intro _ hw'
            obtain ⟨pw, rfl⟩ := hw'
            have HB4 := hid (G1 pw)
            clear kc G1
            go_wp2
            go_ret
            exact ⟨says_f HE.out, HBT.out _ HB4.out⟩
        · obtain rfl : M = I := by omega
          have HLOC : Hid (LocOk 6 0 t0 ks0) := by
            have h2 := HM.out
            have h3 : Fields ks0 := fun i hi => HFT.out i (by have := HQI.out; omega)
            unfold LocOk
            show _
            grind
          go_wp2

          go_loopw [9] (fun i wr => ∃ q : Nat, q ≤ M ∧ i = .int .i64 q ∧ (∀ j (h : j < ks0.length), j < q → OkV (flat ks0[j]) (above + 1)) ∧ Below w1.heap.size w1 wr) (fun i _ => M - (intOf i).toNat)
          case atStart => exact ⟨0, Nat.zero_le _, rfl, fun j _ h => absurd h (Nat.not_lt_zero _), HBW.out⟩
          case round =>
            obtain ⟨q, hq, rfl, hall, hbw⟩ := hrel
            have HALL := hid hall
            have HBW := hid hbw
            clear hall hbw
            by_cases hlt : q < M
            · have hqs : q < ks0.length := by rw [HM.out]; exact hlt
              have kc := HKC.out _ HBW.out q hqs
              have HC := hid (HCALL.out _ HBW.out q hqs)
              obtain ⟨fq, hfq⟩ : ∃ f, flat ks0[q] = f := ⟨_, rfl⟩
              have HFQ := hid hfq
              rw [hfq] at kc HC
              clear hfq
              have hfl1 : fq.length ≤ N := by have := (HKD.out q hqs).1; rw [HFQ.out] at this; omega
              generalize (flats (ks0.take q)).length = A at kc HC
              rw [Nat.zero_add] at kc HC
              generalize o + A * 4 = oA at kc HC
              generalize cap - A = cA at kc HC
              generalize fq.length = nq at kc HC hfl1
              by_cases hok : OkV fq (above + 1)
              · go_wp2_with (go_at_call 22; refine HC.out.mono ?_; rintro e w3 ⟨hs3, hb3⟩; obtain rfl := hs3.pos hok; have HB3 := hid (HBW.out.trans (hb3.mono HBW.out.size)); clear hs3 hb3)
                go_roundw
                case rel => exact ⟨q + 1, by omega, by go_num, fun j h hj => by
                  rcases Nat.lt_or_eq_of_le (Nat.lt_succ_iff.1 hj) with h' | h'
                  · exact HALL.out j h h'
                  · subst h'; rw [HFQ.out]; exact hok, HB3.out⟩
                case measure => simp [intOf]; omega
              · have HE : Hid (¬ OkV l above) := fun h => hok (by
                  rw [← HFQ.out]
                  exact (HOK.out.1 h).2.1 _ (List.getElem_mem hqs))
                go_wp2_with (go_at_call 22; refine HC.out.mono ?_; rintro e w3 ⟨hs3, hb3⟩; obtain rfl := hs3.neg hok; have HB3 := hid (HBW.out.trans (hb3.mono HBW.out.size)); clear hs3 hb3)
                go_ret
                exact ⟨says_f HE.out, HBT.out _ HB3.out⟩
            · have HE : Hid (OkV l above) := HOK.out.2 ⟨HLOC.out, fun x hx => by
                obtain ⟨j, hj, rfl⟩ := List.getElem_of_mem hx
                exact HALL.out j hj (by have := HM.out; omega), by omega⟩
              go_wp2
              go_ret
              exact ⟨says_t HE.out, HBT.out _ HBW.out⟩
    · have HE : Hid (¬ OkV l above) := fun h => by
        have h1 := (HOK.out.1 h).1
        unfold LocOk at h1
        have h2 := HM.out
        have h3 : ks0 = [] → ks0.length = 0 := fun h => by rw [h]; rfl
        grind
      by_cases hev : M % 2 = 0
      · have hs2 : (400 : Int) < (M : Int) := by omega
        have hev2 : ((M : Int) % 2 != 0) = false := by simp <;> omega
        have hev3 : ((M : Int).tmod 2 != 0) = false := by rw [Int.tmod_eq_emod_of_nonneg (by omega)]; exact hev2
        go_wp2_with (go_at_call 29; refine (HL5.out _ HB1.out).mono ?_; rintro e w2 ⟨rfl, hb2⟩; simp only [atV]; have H12 := hid hb2; have HB2 := hid (HB1.out.trans (hb2.mono (by simpa using hz1))); clear hb2)
        go_ret
        exact ⟨says_f HE.out, (btree HB2.out).alloc (btree HB2.out).size _⟩
      · have hev2 : ((M : Int) % 2 != 0) = true := by simp <;> omega
        have hev3 : ((M : Int).tmod 2 != 0) = true := by rw [Int.tmod_eq_emod_of_nonneg (by omega)]; exact hev2
        go_wp2_with (go_at_call 29; refine (HL5.out _ HB1.out).mono ?_; rintro e w2 ⟨rfl, hb2⟩; simp only [atV]; have H12 := hid hb2; have HB2 := hid (HB1.out.trans (hb2.mono (by simpa using hz1))); clear hb2)
        go_ret
        exact ⟨says_f HE.out, (btree HB2.out).alloc (btree HB2.out).size _⟩
end Go.Proofs.YtfookokepnnmoaaDoor
namespace Go.Proofs.YtfookokepnnmoaaDoor
open Go.RowKit
set_option maxRecDepth 20000
theorem l5Ok_any (m : Nat) : OkIH m := by
  induction m with
  | zero =>
    intro b o N cap l above w hm hl hcap hcm ha hb hn hx
    obtain rfl : N = 0 := by omega
    exact l5Ok_zero b o cap l above w hl
  | succ m ih =>
    intro b o N cap l above w hm hl hcap hcm ha hb hn hx
    by_cases hN0 : N = 0
    · subst hN0; exact l5Ok_zero b o cap l above w hl
    have hN1 : 1 ≤ N := by omega
    by_cases ha12 : 12 < above
    · exact l5Ok_deep b o N cap l above w hcap hcm hN1 ha ha12
    have ha12 : above ≤ 12 := by omega
    by_cases hf : ∃ t, l = flat t
    · obtain ⟨⟨k, n, t, ks⟩, hf⟩ := hf
      by_cases hk : k < 1 ∨ 6 < k
      · exact l5Ok_O m ih b o N cap l above w hm hl hcap hcm hN1 ha12 hb hn hx k n t ks hf hk
      · have hkk : k = 1 ∨ k = 2 ∨ k = 3 ∨ k = 4 ∨ k = 5 ∨ k = 6 := by omega
        rcases hkk with h | h | h | h | h | h
        · exact l5Ok_N m ih b o N cap l above w hm hl hcap hcm hN1 ha12 hb hn hx k n t ks hf h
        · exact l5Ok_B m ih b o N cap l above w hm hl hcap hcm hN1 ha12 hb hn hx k n t ks hf h
        · exact l5Ok_I m ih b o N cap l above w hm hl hcap hcm hN1 ha12 hb hn hx k n t ks hf h
        · exact l5Ok_T m ih b o N cap l above w hm hl hcap hcm hN1 ha12 hb hn hx k n t ks hf h
        · exact l5Ok_L m ih b o N cap l above w hm hl hcap hcm hN1 ha12 hb hn hx k n t ks hf h
        · exact l5Ok_R m ih b o N cap l above w hm hl hcap hcm hN1 ha12 hb hn hx k n t ks hf h
    · exact l5Ok_noflat b o N cap l above w hl hcap hcm hN1 ha12 hb hn hx (fun t h => hf ⟨t, h⟩)
set_option maxHeartbeats 1000000 in
theorem specValue_any (b o N cap : Nat) (l : List At) (w : World) (hl : l.length = N) (hcap : N ≤ cap) (hcm : N ≤ 1048576 ∧ cap ≤ 9223372036854775807) (hb : b < w.heap.size) (hn : AtomsAt w b o l) (hx : ∀ x ∈ l, x.text.size ≤ maxLen) :
    Calls Tryd.prog 9 #[.agg #[.slice (some ⟨b, o, none⟩) N cap]] w fun e w' => Says e (ValidV l) ∧ Below w.heap.size w w' := by
  have HB := hid ((Below.refl w.heap.size w).alloc (Nat.le_refl _) (.cells #[.slice (some ⟨b, o, none⟩) N cap] 25))
  have HC : Hid (Calls Tryd.prog 22 #[.agg #[.slice (some ⟨b, o, none⟩) N cap], .int .i64 0] (w.alloc (.cells #[.slice (some ⟨b, o, none⟩) N cap] 25)) fun e w' => Says e (OkV l 0) ∧ Below (w.alloc (.cells #[.slice (some ⟨b, o, none⟩) N cap] 25)).heap.size (w.alloc (.cells #[.slice (some ⟨b, o, none⟩) N cap] 25)) w') :=
    l5Ok_any N b o N cap l 0 _ (Nat.le_refl _) hl hcap hcm (by omega) (by simp; omega) (hn.below HB.out hb) hx
  have HL := hid hl
  clear hn hx hl
  by_cases h0 : N ≤ 1000
  · have HV : Hid (OkV l 0 ↔ ValidV l) := ⟨fun ⟨t, h1, h2, h3⟩ => ⟨by rw [HL.out]; exact h0, t, h1, h2, by omega⟩, fun ⟨_, t, h1, h2, h3⟩ => ⟨t, h1, h2, by omega⟩⟩
    have h1 : decide ((N : Int) ≤ 1000) = true := by simp; omega
    by_cases hv : OkV l 0
    · go_enter Tryd.func9, Tryd.ntmps9
      go_wp2_with (go_at_call 22; refine HC.out.mono ?_; rintro e w1 ⟨hs, hb1⟩; obtain rfl := hs.pos hv; have HB1 := hid (HB.out.trans (hb1.mono (by simp))); clear hs hb1)
      go_ret
      exact ⟨says_t (HV.out.1 hv), HB1.out⟩
    · go_enter Tryd.func9, Tryd.ntmps9
      go_wp2_with (go_at_call 22; refine HC.out.mono ?_; rintro e w1 ⟨hs, hb1⟩; obtain rfl := hs.neg hv; have HB1 := hid (HB.out.trans (hb1.mono (by simp))); clear hs hb1)
      go_ret
      exact ⟨says_f (fun h => hv (HV.out.2 h)), HB1.out⟩
  · have HE : Hid (¬ ValidV l) := fun h => h0 (by rw [← HL.out]; exact h.1)
    have h1 : decide ((N : Int) ≤ 1000) = false := by simp; omega
    have h2 : ¬ (N : Int) ≤ 1000 := by omega
    go_enter Tryd.func9, Tryd.ntmps9
    go_wp2
    go_ret
    exact ⟨says_f HE.out, HB.out⟩
end Go.Proofs.YtfookokepnnmoaaDoor
