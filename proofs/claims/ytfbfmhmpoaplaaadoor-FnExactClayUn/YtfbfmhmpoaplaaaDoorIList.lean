import Derived.Test.YtfbfmhmpoaplaaaDoorIMeth
namespace Go.Proofs.YtfbfmhmpoaplaaaDoor
open Go.RowKit
set_option maxRecDepth 20000
/-- A block of three cells. -/
def ThreeB (W : World) (L : Nat) (t : TypeId) (a b c : Value) : Prop := W.heap[L]? = some (.cells #[a, b, c] t (0, 0))
theorem ThreeB.facts {W : World} {L : Nat} {t : TypeId} {a b c : Value} (h : ThreeB W L t a b c) : W.cell? ⟨L, 0, none⟩ = some a ∧ W.cell? ⟨L, 1, none⟩ = some b ∧ W.cell? ⟨L, 2, none⟩ = some c ∧ W.frozen? ⟨L, 0, none⟩ = false ∧ W.frozen? ⟨L, 1, none⟩ = false ∧ L < W.heap.size := by
  unfold ThreeB at h
  refine ⟨?_, ?_, ?_, ?_, ?_, (Array.getElem?_eq_some_iff.1 h).1⟩
  · unfold World.cell?; rw [h]; rfl
  · unfold World.cell?; rw [h]; rfl
  · unfold World.cell?; rw [h]; rfl
  · unfold World.frozen?; rw [h]; rfl
  · unfold World.frozen?; rw [h]; rfl
theorem ThreeB.below {W W' : World} {B L : Nat} {t : TypeId} {a b c : Value} (h : ThreeB W L t a b c) (hb : Below B W W') (hB : L < B) : ThreeB W' L t a b c := (hb.block L hB).trans h
theorem ThreeB.set {W : World} {L : Nat} {t : TypeId} {a b c : Value} (h : ThreeB W L t a b c) (a' b' : Value) : ThreeB ((W.setCell ⟨L, 0, none⟩ a').setCell ⟨L, 1, none⟩ b') L t a' b' c := by
  have := set_at b' (i := 1) (set_at a' (i := 0) h)
  unfold ThreeB
  rw [this]; rfl
theorem highs_take_succ (l : List Tr) (j : Nat) (h : j < l.length) : highs (l.take (j + 1)) = max (highs (l.take j)) (high l[j] + 1) := by
  rw [List.take_succ_eq_append_getElem h, highs_append]; simp [highs]
theorem highs_take_le (l : List Tr) (j : Nat) : highs (l.take j) ≤ highs l := by
  have : highs l = max (highs (l.take j)) (highs (l.drop j)) := by rw [← highs_append, List.take_append_drop]
  omega
theorem flats_len_bound {l : List Tr} {b : Nat} (h : ∀ x ∈ l, (flat x).length ≤ b) : (flats l).length ≤ l.length * b := by
  induction l with
  | nil => simp [flats]
  | cons y l ih =>
    simp only [flats, List.length_append, List.length_cons]
    have h1 := h y (by simp)
    have h2 := ih (fun x hx => h x (by simp [hx]))
    rw [Nat.add_mul]; omega
theorem RowIn.get {S : Nat → Prop} {W : World} {ad : Option Addr} {cs : List Value} (h : RowIn S W ad cs) (i : Nat) (hi : i < cs.length) : ∃ g o, ad = some ⟨g, o, none⟩ ∧ g < W.heap.size ∧ ∀ i c, cs[i]? = some c → W.cell? ⟨g, o + i, none⟩ = some c := by
  rcases h with rfl | ⟨g, o, h1, h2, h3, h4⟩
  · simp at hi
  · exact ⟨g, o, h1, h3, h4⟩
set_option maxHeartbeats 2000000 in
theorem listOf_any (S : Nat → Prop) (ad : Option Addr) (n cap : Nat) (ks : List Tr) (xs : List Value) (w : World) (h1 : One w) (hn : ks.length = n) (hn1 : n ≤ 1000) (hr : RowIn S w ad xs) (hk : IsThs S w ks xs) (hg : ∀ x ∈ ks, Good x) :
    Calls Tryd.prog 51 #[.slice ad n cap] w fun e w' => Below w.heap.size w w' ∧ ((n ≤ 200 ∧ (flats ks).length + 1 ≤ 1000 ∧ highs ks ≤ 12) ∧ e = .returned (.tuple #[.iface 77 (.agg #[.int .i64 (((flats ks).length + 1 : Nat) : Int), .int .i64 (highs ks), .slice ad n cap]), .string ⟨#[]⟩]) ∨
      ¬ (n ≤ 200 ∧ (flats ks).length + 1 ≤ 1000 ∧ highs ks ≤ 12) ∧ e = .returned (.tuple #[.nilIface, .string ⟨#[108, 97, 114, 103, 101]⟩])) := by
  have HK := hid hk
  have HR := hid hr
  have HN := hid hn
  have HG := hid hg
  have HO := hid h1
  obtain ⟨c0, c1, hz⟩ := h1
  have hfb : (flats ks).length ≤ n * 1000 := by rw [← hn]; exact flats_len_bound (fun x hx => (hg x hx).2.2)
  have hhb : highs ks ≤ 13 := highs_le (fun x hx => by have := (hg x hx).2.1; omega)
  clear hk hr hn hg
  go_enter Tryd.func51, Tryd.ntmps51
  go_wp2
  go_loopw [12] (fun i wr => ∃ q : Nat, q ≤ n ∧ i = .int .i64 q ∧ ThreeB wr w.heap.size 77 (.int .i64 (((flats (ks.take q)).length + 1 : Nat) : Int)) (.int .i64 (highs (ks.take q))) (.slice ad n cap) ∧ Below w.heap.size w wr) (fun i _ => n - (intOf i).toNat)
  case atStart => exact ⟨0, Nat.zero_le _, rfl, heap_alloc_new _ _, (Below.refl _ _).alloc (Nat.le_refl _) _⟩
  case round =>
    obtain ⟨q, hq, rfl, htb, hbw⟩ := hrel
    have HTB := hid htb
    have HBW := hid hbw
    obtain ⟨d0, d1, d2, f0, f1, hL⟩ := htb.facts
    clear htb hbw
    have hA := flats_take_le ks q
    have hH := highs_take_le ks q
    by_cases hlt : q < n
    · have hqs : q < ks.length := by rw [HN.out]; exact hlt
      obtain ⟨v, hv, hth⟩ := isThs_get HK.out q hqs
      obtain ⟨g, o, rfl, hgz, hcs⟩ := HR.out.get q (by rw [isThs_length HK.out]; exact hqs)
      have x0 := (HBW.out.cell (p := ⟨g, o + q, none⟩) hgz).trans (hcs q v hv)
      have HGq := HG.out _ (List.getElem_mem hqs)
      obtain ⟨T, x, f, rv, rfl, m1, m2, m3⟩ := size_any hth HGq.1
      have M3 := hid m3
      have HFT := hid (flats_take_succ ks q hqs)
      have HHT := hid (highs_take_succ ks q hqs)
      have hq1 := HGq.2.1
      have hq2 := HGq.2.2
      have hA1 := flats_take_le ks (q + 1)
      rw [HFT.out, List.length_append] at hA1
      obtain ⟨fl, hfl⟩ : ∃ fl, (flat ks[q]).length = fl := ⟨_, rfl⟩
      obtain ⟨hi, hhi⟩ : ∃ hi, high ks[q] = hi := ⟨_, rfl⟩
      have FLE := hid hfl
      have HIE := hid hhi
      rw [hfl] at hq2 hA1 M3
      rw [hhi] at hq1 M3
      clear hfl hhi
      clear hcs hv hth HGq m3
      obtain ⟨A, hA2⟩ : ∃ A, (flats (ks.take q)).length + 1 = A := ⟨_, rfl⟩
      obtain ⟨H, hH2⟩ : ∃ H, highs (ks.take q) = H := ⟨_, rfl⟩
      have HA2 := hid hA2
      have HH2 := hid hH2
      rw [hA2] at d0 HTB
      rw [hH2] at d1 HTB hH
      have hA3 : A ≤ 1000001 := by omega
      clear hA2 hH2 hA hA1
      go_wp2_with fail
      have HO1 := hid (HO.out.below HBW.out.drew hz)
      have HKP : Hid (∀ W, Below wr.heap.size wr W → W.cell? ⟨w.heap.size, 0, none⟩ = some (.int .i64 A) ∧ W.cell? ⟨w.heap.size, 1, none⟩ = some (.int .i64 H)) := fun W h => ⟨(HTB.out.below h hL).facts.1, (HTB.out.below h hL).facts.2.1⟩
      go_region_with (first
        | (refine (M3.out _ HO1.out).mono ?_; rintro e w3 ⟨rfl, hb3⟩; have HC3 := hid ((Below.refl wr.heap.size wr).drew.trans hb3); obtain ⟨z0, z1, z2, z3, z4, z5⟩ := (HTB.out.below HC3.out hL).facts; clear hb3)
        | (go_at_call 61; refine (with_any A H fl hi _ (by omega) (by omega) (by omega) (by omega)).mono ?_; rintro e w4 ⟨rfl, hb4⟩; have HC4 := hid (HC3.out.trans (hb4.mono HC3.out.size)); obtain ⟨y0, y1, y2, y3, y4, y5⟩ := (HTB.out.below HC4.out hL).facts; clear hb4))
      all_goals
        have NX : Hid (ThreeB ((w4.setCell ⟨w.heap.size, 0, none⟩ (.int .i64 ((A : Int) + fl))).setCell ⟨w.heap.size, 1, none⟩ (.int .i64 ((max H (hi + 1) : Nat) : Int))) w.heap.size 77 (.int .i64 (((flats (ks.take (q + 1))).length + 1 : Nat) : Int)) (.int .i64 (highs (ks.take (q + 1)))) (.slice (some ⟨g, o, none⟩) n cap)) := by
          have h1 : (((flats (ks.take (q + 1))).length + 1 : Nat) : Int) = (A : Int) + fl := by rw [HFT.out, List.length_append, FLE.out]; have := HA2.out; omega
          have h2 : highs (ks.take (q + 1)) = max H (hi + 1) := by rw [HHT.out, HH2.out, HIE.out]
          rw [h1, h2]
          exact (HTB.out.below HC4.out hL).set _ _
        have HBX := hid (below_set (below_set (HBW.out.trans (HC4.out.mono HBW.out.size)) w.heap.size 0 (Nat.le_refl _) (.int .i64 ((A : Int) + fl))) w.heap.size 1 (Nat.le_refl _) (.int .i64 ((max H (hi + 1) : Nat) : Int)))
        go_wp2
        go_roundw
        case rel => exact ⟨q + 1, by omega, by go_num, NX.out, HBX.out⟩
        case measure => simp [intOf]; omega
    · obtain rfl : q = n := by omega
      have HTA : Hid (ks.take q = ks) := List.take_of_length_le (by rw [HN.out]; exact Nat.le_refl _)
      rw [HTA.out] at d0 d1 HTB hA hH
      obtain ⟨A, hA2⟩ : ∃ A, (flats ks).length + 1 = A := ⟨_, rfl⟩
      obtain ⟨H, hH2⟩ : ∃ H, highs ks = H := ⟨_, rfl⟩
      have HAE := hid hA2
      have HHE := hid hH2
      rw [hA2] at d0 HTB
      rw [hH2] at d1 HTB hH hhb
      clear hA2 hH2
      by_cases h200 : q ≤ 200
      · have h201 : (q : Int) ≤ 200 := by omega
        by_cases hft : A ≤ 1000 ∧ H ≤ 12
        · go_wp2_with (go_at_call 62; refine (fits_any A H _).mono ?_; rintro e w3 ⟨hs3, hb3⟩; obtain rfl := hs3.pos hft; have HC3 := hid hb3; obtain ⟨z0, z1, z2, z3, z4, z5⟩ := (HTB.out.below hb3 hL).facts; clear hb3 hs3)
          refine bodyPost_ret (v := .tuple #[.iface 77 (.agg #[.int .i64 A, .int .i64 H, .slice ad q cap]), .string ⟨#[]⟩]) (by simp [results, Tryd.results51, go_sem]) rfl ⟨HBW.out.trans (HC3.out.mono HBW.out.size), .inl ⟨by rw [HAE.out, HHE.out]; exact ⟨h200, hft⟩, by rw [HAE.out, HHE.out]⟩⟩
        · go_wp2_with (go_at_call 62; refine (fits_any A H _).mono ?_; rintro e w3 ⟨hs3, hb3⟩; obtain rfl := hs3.neg hft; have HC3 := hid hb3; clear hb3 hs3)
          refine bodyPost_ret (v := .tuple #[.nilIface, .string ⟨#[108, 97, 114, 103, 101]⟩]) (by simp [results, Tryd.results51, go_sem]) rfl ⟨HBW.out.trans (HC3.out.mono HBW.out.size), .inr ⟨by rw [HAE.out, HHE.out]; exact fun h => hft h.2, rfl⟩⟩
      · have h201 : (200 : Int) < q := by omega
        go_wp2
        refine bodyPost_ret (v := .tuple #[.nilIface, .string ⟨#[108, 97, 114, 103, 101]⟩]) (by simp [results, Tryd.results51, go_sem]) rfl ⟨HBW.out, .inr ⟨fun h => h200 h.1, rfl⟩⟩
end Go.Proofs.YtfbfmhmpoaplaaaDoor
