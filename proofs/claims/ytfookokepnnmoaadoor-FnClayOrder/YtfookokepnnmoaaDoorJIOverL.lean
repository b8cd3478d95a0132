import Derived.Test.YtfookokepnnmoaaDoorJIOver
namespace Go.Proofs.YtfookokepnnmoaaDoor
open Go.RowKit
set_option maxRecDepth 20000
theorem box_gr {w w1 : World} {a b c d : Value} {t : TypeId} (hb : Below (w.alloc (.cells #[a, b, c, d] t)).heap.size (w.alloc (.cells #[a, b, c, d] t)) w1) (p : Gr w1) : (p.W.cell? ⟨w.heap.size, 0, none⟩ = some a ∧ p.W.cell? ⟨w.heap.size, 1, none⟩ = some b ∧ p.W.cell? ⟨w.heap.size, 2, none⟩ = some c ∧ p.W.cell? ⟨w.heap.size, 3, none⟩ = some d) ∧ Below w.heap.size w p.W := by
  have h := hb.trans (p.h.mono hb.size)
  have f : ∀ i, p.W.cell? ⟨w.heap.size, i, none⟩ = #[a, b, c, d][i]? := fun i => by
    rw [h.cell (p := ⟨w.heap.size, i, none⟩) (by simp), cell_new_row]
  exact ⟨⟨f 0, f 1, f 2, f 3⟩, ((Below.refl w.heap.size w).alloc (Nat.le_refl _) _).trans (h.mono (by simp))⟩
theorem rowIn_below {S : Nat → Prop} {W W' : World} {ad : Option Addr} {cs : List Value} (h : RowIn S W ad cs) (hb : Below W.heap.size W W') : RowIn S W' ad cs := h.keep (fun g _ hg => hb.block g hg) hb.size (fun _ h _ => h)
set_option maxHeartbeats 1000000 in
theorem over_list (S : Nat → Prop) (n : Int) (t : ByteArray) (ad : Option Addr) (N cap : Nat) (ks : List Tr) (xs : List Value) (w : World) (h1 : One w) (hN : ks.length = N) (hN1 : N ≤ 1000) (hr : RowIn S w ad xs) (hk : IsThs S w ks xs) (hg : ∀ x ∈ ks, Good x) :
    Calls Tryd.prog 30 #[.agg #[.int .i64 5, .int .i64 n, .string t, .int .i64 N], .slice ad N cap] w fun e w' => Below w.heap.size w w' ∧ OverEnd S w' e (.node 5 n t ks) := by
  have HBA := hid ((Below.refl w.heap.size w).alloc (Nat.le_refl _) (.cells #[.int .i64 5, .int .i64 n, .string t, .int .i64 N] 51))
  have HLI := hid (listOf_any S ad N cap ks xs (w.alloc (.cells #[.int .i64 5, .int .i64 n, .string t, .int .i64 N] 51)) (h1.below HBA.out h1.2.2) hN hN1 (rowIn_below hr HBA.out) (isThs_below hk HBA.out) hg)
  by_cases hF : N ≤ 200 ∧ (flats ks).length + 1 ≤ 1000 ∧ highs ks ≤ 12
  · have HF := hid hF
    have HGD : Hid (Good (.node 5 n t ks) ↔ eqB 5 0 ⟨#[]⟩ N 5 n t N = true) := by
      rw [eqB_iff, nil_bytes]
      constructor
      · intro h
        have hl := (good_node.1 h).1
        unfold LocOk at hl
        grind
      · rintro ⟨_, e1, e2, _⟩
        refine good_node.2 ⟨?_, hg, hF.2.2, hF.2.1⟩
        unfold LocOk
        rw [hN]
        grind
    have HTH : Hid (∀ W, Below w.heap.size w W → IsTh S W (.node 5 n t ks) (.iface 70 (.agg #[.int .i64 (((flats ks).length + 1 : Nat) : Int), .int .i64 (highs ks), .slice ad N cap]))) := fun W hW => by
      simp only [IsTh]
      exact .inr (.inr (.inr (.inr (.inl ⟨by simp, ad, cap, xs, by rw [hN], rowIn_below hr hW, isThs_below hk hW⟩))))
    clear hN hr hk hg hF h1
    have eqa := eqBin 5 0 N 5 n N ⟨#[]⟩ t
    generalize hB : eqB 5 0 ⟨#[]⟩ N 5 n t N = B at *
    generalize ((((flats ks).length + 1 : Nat) : Int)) = A at HLI HTH
    generalize ((highs ks : Nat) : Int) = H at HLI HTH
    clear hB
    obtain ⟨T, x, f, rv, hv, m1, m2, m3⟩ := aList A H ad N cap
    cases hv
    have M3 := hid m3
    clear m3
    go_enter Tryd.func30, Tryd.ntmps30
    go_wp2_with (go_at_call 52; refine HLI.out.mono ?_; rintro e w1 ⟨hb1, ⟨_, rfl⟩ | ⟨hno, _⟩⟩; rotate_left; exact absurd HF.out hno; have HB1 := hid hb1; clear hb1)
    have q0 := fun p : Gr w1 => (box_gr HB1.out p).1.1
    have q1 := fun p : Gr w1 => (box_gr HB1.out p).1.2.1
    have q2 := fun p : Gr w1 => (box_gr HB1.out p).1.2.2.1
    have q3 := fun p : Gr w1 => (box_gr HB1.out p).1.2.2.2
    have hne : Nonempty (Gr w1) := ⟨⟨_, Below.refl _ _⟩⟩
    refine wp_region_gr (by kernel_rfl) (by kernel_rfl) ?_
    repeat (first | go_big_quiet_step ((refine Calls.gr_of (v := .agg #[.int .i64 5, .int .i64 0, .string ⟨#[]⟩, .int .i64 N]) fun _ => ?_; exact M3.out _)) | quiet_step ((refine Calls.gr_of (v := .agg #[.int .i64 5, .int .i64 0, .string ⟨#[]⟩, .int .i64 N]) fun _ => ?_; exact M3.out _)))
    refine wpQuiet_nil ?_
    intro _ hw'
    obtain ⟨pw, rfl⟩ := hw'
    have HB4 := hid (box_gr HB1.out pw).2
    clear q0 q1 q2 q3
    go_wp2
    cases B
    · exact bodyPost_ret (v := .tuple #[.iface 70 (.agg #[.int .i64 A, .int .i64 H, .slice ad N cap]), .bool false]) (by simp [results, Tryd.results30, go_sem]) rfl ⟨HB4.out, .inr ⟨(fun h => by have := HGD.out.1 h; cases this), _, rfl⟩⟩
    · exact bodyPost_ret (v := .tuple #[.iface 70 (.agg #[.int .i64 A, .int .i64 H, .slice ad N cap]), .bool true]) (by simp [results, Tryd.results30, go_sem]) rfl ⟨HB4.out, .inl ⟨HGD.out.2 rfl, _, rfl, HTH.out _ HB4.out⟩⟩
  · have HNF := hid hF
    have HNG : Hid (¬ Good (.node 5 n t ks)) := fun h => by
      have hl := good_node.1 h
      have hl1 := hl.1
      unfold LocOk at hl1
      exact hF ⟨by rw [← hN]; grind, hl.2.2.2, hl.2.2.1⟩
    have hlg : ((⟨#[108, 97, 114, 103, 101]⟩ : ByteArray).toList == (⟨#[]⟩ : ByteArray).toList) = false := by rw [Lib.toList_data, Lib.toList_data]; rfl
    clear hN hr hk hg hF h1
    go_enter Tryd.func30, Tryd.ntmps30
    go_wp2_with (go_at_call 52; refine HLI.out.mono ?_; rintro e w1 ⟨hb1, ⟨hno, _⟩ | ⟨_, rfl⟩⟩; exact absurd hno HNF.out; have HB1 := hid hb1; clear hb1)
    have hne : Nonempty (Gr w1) := ⟨⟨_, Below.refl _ _⟩⟩
    refine wp_region_gr (by kernel_rfl) (by kernel_rfl) ?_
    repeat (first | go_big_quiet_step (fail) | quiet_step (fail))
    refine wpQuiet_nil ?_
    intro _ hw'
    obtain ⟨pw, rfl⟩ := hw'
    have HB4 := hid (box_gr HB1.out pw).2
    go_wp2
    exact bodyPost_ret (v := .tuple #[.nilIface, .bool false]) (by simp [results, Tryd.results30, go_sem]) rfl ⟨HB4.out, .inr ⟨HNG.out, _, rfl⟩⟩
end Go.Proofs.YtfookokepnnmoaaDoor
