import Derived.Test.YtfookokepnnmoaaDoorJIOverL
import Derived.Test.YtfookokepnnmoaaDoorJIFields
namespace Go.Proofs.YtfookokepnnmoaaDoor
open Go.RowKit
set_option maxRecDepth 20000
theorem own_rowIn {S : Nat → Prop} {W : World} {B e m : Nat} {v : Value} {cs : List Value} (h : W.ownsRow B e 2 v m cs) (hS : ∀ g, B ≤ g → S g) : ∃ ad c, v = .slice ad m c ∧ RowIn S W ad cs := by
  obtain ⟨h1, ⟨h2, h3⟩ | ⟨g, cap, cur, h2, h3, h4, h5, h6, h7, h8⟩⟩ := h
  · subst h2 h3
    exact ⟨none, 0, rfl, .inl (List.length_eq_zero_iff.1 (by omega))⟩
  · subst h2
    refine ⟨_, _, rfl, .inr ⟨g, 0, rfl, hS g h3, (Array.getElem?_eq_some_iff.1 h4).1, fun i c hc => ?_⟩⟩
    have hl := (List.getElem?_eq_some_iff.1 hc).1
    have e1 : W.cell? ⟨g, 0 + i, none⟩ = cur[i]? := by unfold World.cell?; rw [h4, Nat.zero_add]; rfl
    rw [e1, ← hc, ← h8, List.getElem?_take_of_lt (by omega)]; simp
theorem rowIn_open {S : Nat → Prop} {W : World} {ad : Option Addr} {cs : List Value} (h : RowIn S W ad cs) : ∃ g o, (0 < cs.length → ad = some ⟨g, o, none⟩ ∧ g < W.heap.size) ∧ ∀ i c, cs[i]? = some c → W.cell? ⟨g, o + i, none⟩ = some c := by
  rcases h with rfl | ⟨g, o, h1, _, h3, h4⟩
  · exact ⟨0, 0, fun h => absurd h (Nat.lt_irrefl _), fun i c h => by simp at h⟩
  · exact ⟨g, o, fun _ => ⟨h1, h3⟩, h4⟩
theorem rec_not {n : Int} {t : ByteArray} {ks : List Tr} (h : ¬ (ks.length % 2 = 0 ∧ Fields ks)) : ¬ Good (.node 6 n t ks) := fun hg => by
  have hl := (good_node.1 hg).1
  unfold LocOk at hl
  grind
set_option maxHeartbeats 1000000 in
theorem over_rec_bad (S : Nat → Prop) (n : Int) (t : ByteArray) (ad : Option Addr) (N cap : Nat) (ks : List Tr) (w : World) (hbad : ¬ Good (.node 6 n t ks))
    (hc : Calls Tryd.prog 53 #[.slice ad N cap] (w.alloc (.cells #[.int .i64 6, .int .i64 n, .string t, .int .i64 N] 51)) fun e w' => Below (w.alloc (.cells #[.int .i64 6, .int .i64 n, .string t, .int .i64 N] 51)).heap.size (w.alloc (.cells #[.int .i64 6, .int .i64 n, .string t, .int .i64 N] 51)) w' ∧ e = .returned (.tuple #[.slice none 0 0, .bool false])) :
    Calls Tryd.prog 30 #[.agg #[.int .i64 6, .int .i64 n, .string t, .int .i64 N], .slice ad N cap] w fun e w' => Below w.heap.size w w' ∧ OverEnd S w' e (.node 6 n t ks) := by
  have HBA := hid ((Below.refl w.heap.size w).alloc (Nat.le_refl _) (.cells #[.int .i64 6, .int .i64 n, .string t, .int .i64 N] 51))
  have HNG := hid hbad
  have HC := hid hc
  clear hbad hc
  go_enter Tryd.func30, Tryd.ntmps30
  go_wp2_with (go_at_call 53; refine HC.out.mono ?_; rintro e w1 ⟨hb1, rfl⟩; have HB1 := hid (HBA.out.trans (hb1.mono (by simp))); clear hb1)
  exact bodyPost_ret (v := .tuple #[.nilIface, .bool false]) (by simp [results, Tryd.results30, go_sem]) rfl ⟨HB1.out, .inr ⟨HNG.out, _, rfl⟩⟩
set_option maxHeartbeats 2000000 in
theorem over_rec (S : Nat → Prop) (n : Int) (t : ByteArray) (ad : Option Addr) (N cap : Nat) (ks : List Tr) (xs : List Value) (w : World) (hS : ∀ g, w.heap.size ≤ g → S g) (h1 : One w) (hN : ks.length = N) (hN1 : N ≤ 1000) (hcap : N ≤ cap) (hc2 : cap ≤ 9223372036854775807) (hr : RowIn S w ad xs) (hk : IsThs S w ks xs) (hg : ∀ x ∈ ks, Good x) :
    Calls Tryd.prog 30 #[.agg #[.int .i64 6, .int .i64 n, .string t, .int .i64 N], .slice ad N cap] w fun e w' => Below w.heap.size w w' ∧ OverEnd S w' e (.node 6 n t ks) := by
  have HBA := hid ((Below.refl w.heap.size w).alloc (Nat.le_refl _) (.cells #[.int .i64 6, .int .i64 n, .string t, .int .i64 N] 51))
  by_cases hod : N % 2 = 1
  · exact over_rec_bad S n t ad N cap ks w (rec_not (fun h => by rw [hN] at h; omega)) (fieldsOf_odd ad N cap _ hN1 hod)
  obtain ⟨m, rfl⟩ : ∃ m, N = 2 * m := ⟨N / 2, by omega⟩
  obtain ⟨g, o, hgo, hcs⟩ := rowIn_open (rowIn_below hr HBA.out)
  have hxl := isThs_length hk
  rw [hN] at hxl
  have HFI := fieldsOf_any S g o m cap ad (fun h => (hgo (by omega)).1) ks xs (w.alloc (.cells #[.int .i64 6, .int .i64 n, .string t, .int .i64 ((2 * m : Nat) : Int)] 51)) (by omega) hcap hc2 hN (fun h => (hgo (by omega)).2) hcs (isThs_below hk HBA.out)
  by_cases hFd : Fields ks
  case neg =>
    refine over_rec_bad S n t ad (2 * m) cap ks w (rec_not (fun h => hFd h.2)) (HFI.mono ?_)
    rintro e w' ⟨hb, ⟨_, rfl⟩ | ⟨h, _⟩⟩
    · exact ⟨hb, rfl⟩
    · exact absurd h hFd
  have HFD := hid hFd
  have HFI2 := hid HFI
  have HREC : Hid (∀ w1 adv cv, Below (w.alloc (.cells #[.int .i64 6, .int .i64 n, .string t, .int .i64 ((2 * m : Nat) : Int)] 51)).heap.size (w.alloc (.cells #[.int .i64 6, .int .i64 n, .string t, .int .i64 ((2 * m : Nat) : Int)] 51)) w1 → RowIn S w1 adv (fcells xs) →
      Calls Tryd.prog 54 #[.slice adv m cv] w1 fun e w' => Below w1.heap.size w1 w' ∧ ((m ≤ 200 ∧ (flats ks).length + 1 ≤ 1000 ∧ highs ks ≤ 12) ∧ e = .returned (.tuple #[.iface 74 (.agg #[.int .i64 (((flats ks).length + 1 : Nat) : Int), .int .i64 (highs ks), .slice adv m cv]), .string ⟨#[]⟩]) ∨
      ¬ (m ≤ 200 ∧ (flats ks).length + 1 ≤ 1000 ∧ highs ks ≤ 12) ∧ e = .returned (.tuple #[.nilIface, .string ⟨#[108, 97, 114, 103, 101]⟩]))) := fun w1 adv cv hb hrw => by
    have hbw := HBA.out.trans (hb.mono (by simp))
    refine recordOf_any S adv m cv ks xs w1 (h1.below hbw h1.2.2) hN (by omega) hrw (isThs_below hk hbw) hg (fun i x hx => ?_)
    have hi := (List.getElem?_eq_some_iff.1 hx).1
    obtain ⟨y, hy, hyk⟩ := (hFd i hi).1
    rw [hx] at hy
    cases hy
    exact hyk
  have HRI : Hid (∀ w1 v, Below (w.alloc (.cells #[.int .i64 6, .int .i64 n, .string t, .int .i64 ((2 * m : Nat) : Int)] 51)).heap.size (w.alloc (.cells #[.int .i64 6, .int .i64 n, .string t, .int .i64 ((2 * m : Nat) : Int)] 51)) w1 → w1.ownsRow (w.alloc (.cells #[.int .i64 6, .int .i64 n, .string t, .int .i64 ((2 * m : Nat) : Int)] 51)).heap.size 77 2 v m (fcells xs) → ∃ adv cv, v = .slice adv m cv ∧ RowIn S w1 adv (fcells xs)) := fun w1 v _ ho =>
    own_rowIn ho (fun g h => hS g (by simp at h; omega))
  by_cases hF : m ≤ 200 ∧ (flats ks).length + 1 ≤ 1000 ∧ highs ks ≤ 12
  · have HF := hid hF
    have HGD : Hid (Good (.node 6 n t ks) ↔ eqB 6 0 ⟨#[]⟩ (2 * m) 6 n t (2 * m) = true) := by
      rw [eqB_iff, nil_bytes]
      constructor
      · intro h
        have hl := (good_node.1 h).1
        unfold LocOk at hl
        grind
      · rintro ⟨_, e1, e2, _⟩
        refine good_node.2 ⟨?_, hg, hF.2.2, hF.2.1⟩
        unfold LocOk
        rw [hN]
        grind
    have HTH : Hid (∀ W adv cv, Below w.heap.size w W → RowIn S W adv (fcells xs) → IsTh S W (.node 6 n t ks) (.iface 74 (.agg #[.int .i64 (((flats ks).length + 1 : Nat) : Int), .int .i64 (highs ks), .slice adv m cv]))) := fun W adv cv hW hrw => by
      simp only [IsTh]
      exact .inr (.inr (.inr (.inr (.inr ⟨by simp, adv, m, cv, xs, rfl, hN, hrw, isThs_below hk hW⟩))))
    clear hN hr hk hg hF h1 hcs hgo hxl hFd HFI hS
    have hm5 : m ≤ 1000000 := by omega
    have eqa := eqBin 6 0 (2 * m) 6 n (2 * m) ⟨#[]⟩ t
    generalize hB : eqB 6 0 ⟨#[]⟩ (2 * m) 6 n t (2 * m) = B at *
    generalize ((((flats ks).length + 1 : Nat) : Int)) = A at HREC HTH
    generalize ((highs ks : Nat) : Int) = H at HREC HTH
    clear hB
    have mrec := mAtomRec A H
    have ment : ∀ (v : Value) (w : World), (callFunc 86 #[v]).run Tryd.prog w = .ok (.enter 86 #[v]) w := fun v w => enterOf _ _ w (by simp)
    go_enter Tryd.func30, Tryd.ntmps30
    go_wp2_with (first
      | (go_at_call 53; refine HFI2.out.mono ?_; rintro e w1 ⟨hb1, ⟨hno, _⟩ | ⟨_, v, rfl, hov⟩⟩; exact absurd HFD.out hno; have HB1 := hid hb1; obtain ⟨adv, cv, rfl, hrv⟩ := HRI.out w1 v hb1 hov; have HRV := hid hrv; clear hb1 hov hrv)
      | (go_at_call 54; refine (HREC.out w1 adv cv HB1.out HRV.out).mono ?_; rintro e w2 ⟨hb2, ⟨_, rfl⟩ | ⟨hno, _⟩⟩; rotate_left; exact absurd HF.out hno; have HB2 := hid (HB1.out.trans (hb2.mono HB1.out.size)); have HRV2 := hid (rowIn_below HRV.out hb2); clear hb2))
    have q0 := fun p : Gr w2 => (box_gr HB2.out p).1.1
    have q1 := fun p : Gr w2 => (box_gr HB2.out p).1.2.1
    have q2 := fun p : Gr w2 => (box_gr HB2.out p).1.2.2.1
    have q3 := fun p : Gr w2 => (box_gr HB2.out p).1.2.2.2
    have hne : Nonempty (Gr w2) := ⟨⟨_, Below.refl _ _⟩⟩
    refine wp_region_gr (by kernel_rfl) (by kernel_rfl) ?_
    repeat (first | go_big_quiet_step ((refine Calls.gr_of (v := .agg #[.int .i64 6, .int .i64 0, .string ⟨#[]⟩, .int .i64 (2 * m)]) fun _ => ?_; exact recAtom_any A H adv m cv _ hm5)) | quiet_step ((refine Calls.gr_of (v := .agg #[.int .i64 6, .int .i64 0, .string ⟨#[]⟩, .int .i64 (2 * m)]) fun _ => ?_; exact recAtom_any A H adv m cv _ hm5)))
    refine wpQuiet_nil ?_
    intro _ hw'
    obtain ⟨pw, rfl⟩ := hw'
    have HB4 := hid (box_gr HB2.out pw).2
    have HRV4 := hid (rowIn_below HRV2.out pw.h)
    clear q0 q1 q2 q3
    go_wp2
    cases B
    · exact bodyPost_ret (v := .tuple #[.iface 74 (.agg #[.int .i64 A, .int .i64 H, .slice adv m cv]), .bool false]) (by simp [results, Tryd.results30, go_sem]) rfl ⟨HB4.out, .inr ⟨(fun h => by have := HGD.out.1 h; cases this), _, rfl⟩⟩
    · exact bodyPost_ret (v := .tuple #[.iface 74 (.agg #[.int .i64 A, .int .i64 H, .slice adv m cv]), .bool true]) (by simp [results, Tryd.results30, go_sem]) rfl ⟨HB4.out, .inl ⟨HGD.out.2 rfl, _, rfl, HTH.out _ adv cv HB4.out HRV4.out⟩⟩
  · have HNF := hid hF
    have HNG : Hid (¬ Good (.node 6 n t ks)) := fun h => by
      have hl := good_node.1 h
      have hl1 := hl.1
      unfold LocOk at hl1
      exact hF ⟨by grind, hl.2.2.2, hl.2.2.1⟩
    have hlg : ((⟨#[108, 97, 114, 103, 101]⟩ : ByteArray).toList == (⟨#[]⟩ : ByteArray).toList) = false := by rw [Lib.toList_data, Lib.toList_data]; rfl
    clear hN hr hk hg hF h1 hcs hgo hxl hFd HFI hS
    go_enter Tryd.func30, Tryd.ntmps30
    go_wp2_with (first
      | (go_at_call 53; refine HFI2.out.mono ?_; rintro e w1 ⟨hb1, ⟨hno, _⟩ | ⟨_, v, rfl, hov⟩⟩; exact absurd HFD.out hno; have HB1 := hid hb1; obtain ⟨adv, cv, rfl, hrv⟩ := HRI.out w1 v hb1 hov; have HRV := hid hrv; clear hb1 hov hrv)
      | (go_at_call 54; refine (HREC.out w1 adv cv HB1.out HRV.out).mono ?_; rintro e w2 ⟨hb2, ⟨hno, _⟩ | ⟨_, rfl⟩⟩; exact absurd hno HNF.out; have HB2 := hid (HB1.out.trans (hb2.mono HB1.out.size)); clear hb2))
    have hne : Nonempty (Gr w2) := ⟨⟨_, Below.refl _ _⟩⟩
    refine wp_region_gr (by kernel_rfl) (by kernel_rfl) ?_
    repeat (first | go_big_quiet_step (fail) | quiet_step (fail))
    refine wpQuiet_nil ?_
    intro _ hw'
    obtain ⟨pw, rfl⟩ := hw'
    have HB4 := hid (box_gr HB2.out pw).2
    go_wp2
    exact bodyPost_ret (v := .tuple #[.nilIface, .bool false]) (by simp [results, Tryd.results30, go_sem]) rfl ⟨HB4.out, .inr ⟨HNG.out, _, rfl⟩⟩
end Go.Proofs.YtfookokepnnmoaaDoor
