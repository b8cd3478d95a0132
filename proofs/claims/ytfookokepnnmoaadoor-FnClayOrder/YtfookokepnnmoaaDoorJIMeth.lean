import Derived.Test.YtfookokepnnmoaaDoorJQuiet
namespace Go.Proofs.YtfookokepnnmoaaDoor
open Go.RowKit
set_option maxRecDepth 20000
/-! The methods that calls through the interface come to. -/
theorem mSizeNone (w : World) : (method 255 99 (.agg #[]) "loop.example/kilnyard/impl.size").run Tryd.prog w = .ok (90, .agg #[]) w := by kernel_rfl
theorem mSizeBool (b : Bool) (w : World) : (method 255 100 (.bool b) "loop.example/kilnyard/impl.size").run Tryd.prog w = .ok (93, .bool b) w := by kernel_rfl
theorem mSizeInt (n : Int) (w : World) : (method 255 101 (.int .i64 n) "loop.example/kilnyard/impl.size").run Tryd.prog w = .ok (96, .int .i64 n) w := by kernel_rfl
theorem mSizeText (s : ByteArray) (w : World) : (method 255 65 (.string s) "loop.example/kilnyard/impl.size").run Tryd.prog w = .ok (82, .string s) w := by kernel_rfl
theorem mSizeList (a b : Int) (ad : Option Addr) (n c : Nat) (w : World) : (method 255 70 (.agg #[.int .i64 a, .int .i64 b, .slice ad n c]) "loop.example/kilnyard/impl.size").run Tryd.prog w = .ok (83, .agg #[.int .i64 a, .int .i64 b]) w := by kernel_rfl
theorem mSizeRec (a b : Int) (ad : Option Addr) (n c : Nat) (w : World) : (method 255 74 (.agg #[.int .i64 a, .int .i64 b, .slice ad n c]) "loop.example/kilnyard/impl.size").run Tryd.prog w = .ok (83, .agg #[.int .i64 a, .int .i64 b]) w := by kernel_rfl
theorem mAtomNone (w : World) : (method 255 99 (.agg #[]) "loop.example/kilnyard/impl.atom").run Tryd.prog w = .ok (88, .agg #[]) w := by kernel_rfl
theorem mAtomBool (b : Bool) (w : World) : (method 255 100 (.bool b) "loop.example/kilnyard/impl.atom").run Tryd.prog w = .ok (91, .bool b) w := by kernel_rfl
theorem mAtomInt (n : Int) (w : World) : (method 255 101 (.int .i64 n) "loop.example/kilnyard/impl.atom").run Tryd.prog w = .ok (94, .int .i64 n) w := by kernel_rfl
theorem mAtomText (s : ByteArray) (w : World) : (method 255 65 (.string s) "loop.example/kilnyard/impl.atom").run Tryd.prog w = .ok (80, .string s) w := by kernel_rfl
theorem mAtomList (a b : Int) (ad : Option Addr) (n c : Nat) (w : World) : (method 255 70 (.agg #[.int .i64 a, .int .i64 b, .slice ad n c]) "loop.example/kilnyard/impl.atom").run Tryd.prog w = .ok (84, .agg #[.int .i64 a, .int .i64 b, .slice ad n c]) w := by kernel_rfl
theorem mAtomRec (a b : Int) (ad : Option Addr) (n c : Nat) (w : World) : (method 255 74 (.agg #[.int .i64 a, .int .i64 b, .slice ad n c]) "loop.example/kilnyard/impl.atom").run Tryd.prog w = .ok (86, .agg #[.int .i64 a, .int .i64 b, .slice ad n c]) w := by kernel_rfl
theorem enterOf (f : Nat) (v : Value) (w : World) (hf : f = 90 ∨ f = 93 ∨ f = 96 ∨ f = 82 ∨ f = 83 ∨ f = 88 ∨ f = 91 ∨ f = 94 ∨ f = 80 ∨ f = 84 ∨ f = 86) : (callFunc f #[v]).run Tryd.prog w = .ok (.enter f #[v]) w := by
  rcases hf with rfl | rfl | rfl | rfl | rfl | rfl | rfl | rfl | rfl | rfl | rfl <;> kernel_rfl
/-- A call of 'size' through the interface. -/
def SizeM (t : Tr) (v : Value) : Prop := ∃ T x f rv, v = .iface T x ∧ (∀ w, (method 255 T x "loop.example/kilnyard/impl.size").run Tryd.prog w = .ok (f, rv) w) ∧ (∀ w, (callFunc f #[rv]).run Tryd.prog w = .ok (.enter f #[rv]) w) ∧ ∀ w, One w → Calls Tryd.prog f #[rv] w fun e w' => e = .returned (.agg #[.int .i64 (flat t).length, .int .i64 (high t)]) ∧ Below w.heap.size w w'
theorem size_any {S : Nat → Prop} {W : World} {t : Tr} {v : Value} (h : IsTh S W t v) (hg : OkT t) : SizeM t v := by
  obtain ⟨k, n, tx, ks⟩ := t
  simp only [OkT] at hg
  have hl := hg.1
  unfold LocOk at hl
  have leaf : ks = [] → (flat (.node k n tx ks)).length = 1 ∧ high (.node k n tx ks) = 0 := fun h => by subst h; simp [flat, flats, high, highs]
  have e1 : (flat (.node k n tx ks)).length = (flats ks).length + 1 := by simp [flat]
  have e2 : high (.node k n tx ks) = highs ks := by simp [high]
  simp only [IsTh] at h
  rcases h with ⟨rfl, rfl⟩ | ⟨rfl, rfl⟩ | ⟨rfl, rfl⟩ | ⟨rfl, rfl⟩ | ⟨rfl, ad, cap, xs, rfl, _⟩ | ⟨rfl, ad, m, cap, xs, rfl, _⟩
  · obtain ⟨l1, l2⟩ := leaf (by grind)
    refine ⟨_, _, _, _, rfl, mSizeNone, fun w => enterOf _ _ w (by simp), fun w hw => ?_⟩
    rw [l1, l2]; exact noneSize_any w hw
  · obtain ⟨l1, l2⟩ := leaf (by grind)
    refine ⟨_, _, _, _, rfl, mSizeBool _, fun w => enterOf _ _ w (by simp), fun w hw => ?_⟩
    rw [l1, l2]; exact boolSize_any _ w hw
  · obtain ⟨l1, l2⟩ := leaf (by grind)
    refine ⟨_, _, _, _, rfl, mSizeInt _, fun w => enterOf _ _ w (by simp), fun w hw => ?_⟩
    rw [l1, l2]; exact intSize_any _ w hw
  · obtain ⟨l1, l2⟩ := leaf (by grind)
    refine ⟨_, _, _, _, rfl, mSizeText _, fun w => enterOf _ _ w (by simp), fun w hw => ?_⟩
    rw [l1, l2]; exact textSize_any _ w hw
  · refine ⟨_, _, _, _, rfl, mSizeList _ _ _ _ _, fun w => enterOf _ _ w (by simp), fun w hw => ?_⟩
    rw [e1, e2]; exact sizeSize_any _ _ w
  · refine ⟨_, _, _, _, rfl, mSizeRec _ _ _ _ _, fun w => enterOf _ _ w (by simp), fun w hw => ?_⟩
    rw [e1, e2]; exact sizeSize_any _ _ w
end Go.Proofs.YtfookokepnnmoaaDoor
namespace Go.Proofs.YtfookokepnnmoaaDoor
open Go.RowKit
set_option maxRecDepth 20000
/-- A block of three cells. -/
def ThreeB (W : World) (L : Nat) (t : TypeId) (a b c : Value) : Prop := W.heap[L]? = some (.cells #[a, b, c] t (0, 0))
theorem ThreeB.facts {W : World} {L : Nat} {t : TypeId} {a b c : Value} (h : ThreeB W L t a b c) : W.cell? ⟨L, 0, none⟩ = some a ∧ W.cell? ⟨L, 1, none⟩ = some b ∧ W.cell? ⟨L, 2, none⟩ = some c ∧ W.frozen? ⟨L, 0, none⟩ = false ∧ W.frozen? ⟨L, 1, none⟩ = false ∧ L < W.heap.size := by
  unfold ThreeB at h
  refine ⟨?_, ?_, ?_, ?_, ?_, (Array.getElem?_eq_some_iff.1 h).1⟩
  · unfold World.cell?; rw [h]; rfl
  · unfold World.cell?; rw [h]; rfl
  · unfold World.cell?; rw [h]; rfl
  · unfold World.frozen?; rw [h]; rfl
  · unfold World.frozen?; rw [h]; rfl
theorem ThreeB.below {W W' : World} {B L : Nat} {t : TypeId} {a b c : Value} (h : ThreeB W L t a b c) (hb : Below B W W') (hB : L < B) : ThreeB W' L t a b c := (hb.block L hB).trans h
theorem ThreeB.set {W : World} {L : Nat} {t : TypeId} {a b c : Value} (h : ThreeB W L t a b c) (a' b' : Value) : ThreeB ((W.setCell ⟨L, 0, none⟩ a').setCell ⟨L, 1, none⟩ b') L t a' b' c := by
  have := set_at b' (i := 1) (set_at a' (i := 0) h)
  unfold ThreeB
  rw [this]; rfl
theorem highs_take_succ (l : List Tr) (j : Nat) (h : j < l.length) : highs (l.take (j + 1)) = max (highs (l.take j)) (high l[j] + 1) := by
  rw [List.take_succ_eq_append_getElem h, highs_append]; simp [highs]
theorem highs_take_le (l : List Tr) (j : Nat) : highs (l.take j) ≤ highs l := by
  have : highs l = max (highs (l.take j)) (highs (l.drop j)) := by rw [← highs_append, List.take_append_drop]
  omega
theorem flats_len_bound {l : List Tr} {b : Nat} (h : ∀ x ∈ l, (flat x).length ≤ b) : (flats l).length ≤ l.length * b := by
  induction l with
  | nil => simp [flats]
  | cons y l ih =>
    simp only [flats, List.length_append, List.length_cons]
    have h1 := h y (by simp)
    have h2 := ih (fun x hx => h x (by simp [hx]))
    rw [Nat.add_mul]; omega
theorem RowIn.get {S : Nat → Prop} {W : World} {ad : Option Addr} {cs : List Value} (h : RowIn S W ad cs) (i : Nat) (hi : i < cs.length) : ∃ g o, ad = some ⟨g, o, none⟩ ∧ g < W.heap.size ∧ ∀ i c, cs[i]? = some c → W.cell? ⟨g, o + i, none⟩ = some c := by
  rcases h with rfl | ⟨g, o, h1, h2, h3, h4⟩
  · simp at hi
  · exact ⟨g, o, h1, h3, h4⟩
set_option maxHeartbeats 2000000 in
theorem listOf_any (S : Nat → Prop) (ad : Option Addr) (n cap : Nat) (ks : List Tr) (xs : List Value) (w : World) (h1 : One w) (hn : ks.length = n) (hn1 : n ≤ 1000) (hr : RowIn S w ad xs) (hk : IsThs S w ks xs) (hg : ∀ x ∈ ks, Good x) :
    Calls Tryd.prog 52 #[.slice ad n cap] w fun e w' => Below w.heap.size w w' ∧ ((n ≤ 200 ∧ (flats ks).length + 1 ≤ 1000 ∧ highs ks ≤ 12) ∧ e = .returned (.tuple #[.iface 70 (.agg #[.int .i64 (((flats ks).length + 1 : Nat) : Int), .int .i64 (highs ks), .slice ad n cap]), .string ⟨#[]⟩]) ∨
      ¬ (n ≤ 200 ∧ (flats ks).length + 1 ≤ 1000 ∧ highs ks ≤ 12) ∧ e = .returned (.tuple #[.nilIface, .string ⟨#[108, 97, 114, 103, 101]⟩])) := by
  have HK := hid hk
  have HR := hid hr
  have HN := hid hn
  have HG := hid hg
  have HO := hid h1
  obtain ⟨c0, c1, hz⟩ := h1
  have hfb : (flats ks).length ≤ n * 1000 := by rw [← hn]; exact flats_len_bound (fun x hx => (hg x hx).2.2)
  have hhb : highs ks ≤ 13 := highs_le (fun x hx => by have := (hg x hx).2.1; omega)
  clear hk hr hn hg
  go_enter Tryd.func52, Tryd.ntmps52
  go_wp2
  go_loopw [12] (fun i wr => ∃ q : Nat, q ≤ n ∧ i = .int .i64 q ∧ ThreeB wr w.heap.size 70 (.int .i64 (((flats (ks.take q)).length + 1 : Nat) : Int)) (.int .i64 (highs (ks.take q))) (.slice ad n cap) ∧ Below w.heap.size w wr) (fun i _ => n - (intOf i).toNat)
  case atStart => exact ⟨0, Nat.zero_le _, rfl, heap_alloc_new _ _, (Below.refl _ _).alloc (Nat.le_refl _) _⟩
  case round =>
    obtain ⟨q, hq, rfl, htb, hbw⟩ := hrel
    have HTB := hid htb
    have HBW := hid hbw
    obtain ⟨d0, d1, d2, f0, f1, hL⟩ := htb.facts
    clear htb hbw
    have hA := flats_take_le ks q
    have hH := highs_take_le ks q
    by_cases hlt : q < n
    · have hqs : q < ks.length := by rw [HN.out]; exact hlt
      obtain ⟨v, hv, hth⟩ := isThs_get HK.out q hqs
      obtain ⟨g, o, rfl, hgz, hcs⟩ := HR.out.get q (by rw [isThs_length HK.out]; exact hqs)
      have x0 := (HBW.out.cell (p := ⟨g, o + q, none⟩) hgz).trans (hcs q v hv)
      have HGq := HG.out _ (List.getElem_mem hqs)
      obtain ⟨T, x, f, rv, rfl, m1, m2, m3⟩ := size_any hth HGq.1
      have M3 := hid m3
      have HFT := hid (flats_take_succ ks q hqs)
      have HHT := hid (highs_take_succ ks q hqs)
      have hq1 := HGq.2.1
      have hq2 := HGq.2.2
      have hA1 := flats_take_le ks (q + 1)
      rw [HFT.out, List.length_append] at hA1
      obtain ⟨fl, hfl⟩ : ∃ fl, (flat ks[q]).length = fl := ⟨_, rfl⟩
      obtain ⟨hi, hhi⟩ : ∃ hi, high ks[q] = hi := ⟨_, rfl⟩
      have FLE := hid hfl
      have HIE := hid hhi
      rw [hfl] at hq2 hA1 M3
      rw [hhi] at hq1 M3
      clear hfl hhi
      clear hcs hv hth HGq m3
      obtain ⟨A, hA2⟩ : ∃ A, (flats (ks.take q)).length + 1 = A := ⟨_, rfl⟩
      obtain ⟨H, hH2⟩ : ∃ H, highs (ks.take q) = H := ⟨_, rfl⟩
      have HA2 := hid hA2
      have HH2 := hid hH2
      rw [hA2] at d0 HTB
      rw [hH2] at d1 HTB hH
      have hA3 : A ≤ 1000001 := by omega
      clear hA2 hH2 hA hA1
      go_wp2_with fail
      have HO1 := hid (HO.out.below HBW.out.drew hz)
      have HKP : Hid (∀ W, Below wr.heap.size wr W → W.cell? ⟨w.heap.size, 0, none⟩ = some (.int .i64 A) ∧ W.cell? ⟨w.heap.size, 1, none⟩ = some (.int .i64 H)) := fun W h => ⟨(HTB.out.below h hL).facts.1, (HTB.out.below h hL).facts.2.1⟩
      go_region_with (first
        | (refine (M3.out _ HO1.out).mono ?_; rintro e w3 ⟨rfl, hb3⟩; have HC3 := hid ((Below.refl wr.heap.size wr).drew.trans hb3); obtain ⟨z0, z1, z2, z3, z4, z5⟩ := (HTB.out.below HC3.out hL).facts; clear hb3)
        | (go_at_call 60; refine (with_any A H fl hi _ (by omega) (by omega) (by omega) (by omega)).mono ?_; rintro e w4 ⟨rfl, hb4⟩; have HC4 := hid (HC3.out.trans (hb4.mono HC3.out.size)); obtain ⟨y0, y1, y2, y3, y4, y5⟩ := (HTB.out.below HC4.out hL).facts; clear hb4))
      all_goals
        have NX : Hid (ThreeB ((w4.setCell ⟨w.heap.size, 0, none⟩ (.int .i64 ((A : Int) + fl))).setCell ⟨w.heap.size, 1, none⟩ (.int .i64 ((max H (hi + 1) : Nat) : Int))) w.heap.size 70 (.int .i64 (((flats (ks.take (q + 1))).length + 1 : Nat) : Int)) (.int .i64 (highs (ks.take (q + 1)))) (.slice (some ⟨g, o, none⟩) n cap)) := by
          have h1 : (((flats (ks.take (q + 1))).length + 1 : Nat) : Int) = (A : Int) + fl := by rw [HFT.out, List.length_append, FLE.out]; have := HA2.out; omega
          have h2 : highs (ks.take (q + 1)) = max H (hi + 1) := by rw [HHT.out, HH2.out, HIE.out]
          rw [h1, h2]
          exact (HTB.out.below HC4.out hL).set _ _
        have HBX := hid (below_set (below_set (HBW.out.trans (HC4.out.mono HBW.out.size)) w.heap.size 0 (Nat.le_refl _) (.int .i64 ((A : Int) + fl))) w.heap.size 1 (Nat.le_refl _) (.int .i64 ((max H (hi + 1) : Nat) : Int)))
        go_wp2
        go_roundw
        case rel => exact ⟨q + 1, by omega, by go_num, NX.out, HBX.out⟩
        case measure => simp [intOf]; omega
    · obtain rfl : q = n := by omega
      have HTA : Hid (ks.take q = ks) := List.take_of_length_le (by rw [HN.out]; exact Nat.le_refl _)
      rw [HTA.out] at d0 d1 HTB hA hH
      obtain ⟨A, hA2⟩ : ∃ A, (flats ks).length + 1 = A := ⟨_, rfl⟩
      obtain ⟨H, hH2⟩ : ∃ H, highs ks = H := ⟨_, rfl⟩
      have HAE := hid hA2
      have HHE := hid hH2
      rw [hA2] at d0 HTB
      rw [hH2] at d1 HTB hH hhb
      clear hA2 hH2
      by_cases h200 : q ≤ 200
      · have h201 : (q : Int) ≤ 200 := by omega
        by_cases hft : A ≤ 1000 ∧ H ≤ 12
        · go_wp2_with (go_at_call 61; refine (fits_any A H _).mono ?_; rintro e w3 ⟨hs3, hb3⟩; obtain rfl := hs3.pos hft; have HC3 := hid hb3; obtain ⟨z0, z1, z2, z3, z4, z5⟩ := (HTB.out.below hb3 hL).facts; clear hb3 hs3)
          refine bodyPost_ret (v := .tuple #[.iface 70 (.agg #[.int .i64 A, .int .i64 H, .slice ad q cap]), .string ⟨#[]⟩]) (by simp [results, Tryd.results52, go_sem]) rfl ⟨HBW.out.trans (HC3.out.mono HBW.out.size), .inl ⟨by rw [HAE.out, HHE.out]; exact ⟨h200, hft⟩, by rw [HAE.out, HHE.out]⟩⟩
        · go_wp2_with (go_at_call 61; refine (fits_any A H _).mono ?_; rintro e w3 ⟨hs3, hb3⟩; obtain rfl := hs3.neg hft; have HC3 := hid hb3; clear hb3 hs3)
          refine bodyPost_ret (v := .tuple #[.nilIface, .string ⟨#[108, 97, 114, 103, 101]⟩]) (by simp [results, Tryd.results52, go_sem]) rfl ⟨HBW.out.trans (HC3.out.mono HBW.out.size), .inr ⟨by rw [HAE.out, HHE.out]; exact fun h => hft h.2, rfl⟩⟩
      · have h201 : (200 : Int) < q := by omega
        go_wp2
        refine bodyPost_ret (v := .tuple #[.nilIface, .string ⟨#[108, 97, 114, 103, 101]⟩]) (by simp [results, Tryd.results52, go_sem]) rfl ⟨HBW.out, .inr ⟨fun h => h200 h.1, rfl⟩⟩
end Go.Proofs.YtfookokepnnmoaaDoor
namespace Go.Proofs.YtfookokepnnmoaaDoor
open Go.RowKit
set_option maxRecDepth 20000
set_option maxHeartbeats 400000 in
theorem noneAtom_any (w : World) :
    Calls Tryd.prog 88 #[.agg #[]] w fun e w' => e = .returned (.agg #[.int .i64 1, .int .i64 0, .string ⟨#[]⟩, .int .i64 0]) ∧ Below w.heap.size w w' := by
  go_enter Tryd.func88, Tryd.ntmps88
  go_wp2
  refine bodyPost_ret (v := .agg #[.int .i64 1, .int .i64 0, .string ⟨#[]⟩, .int .i64 0]) ?_ rfl ⟨rfl, below_two' _ _ _⟩
  simp [results, Tryd.results88, go_sem]
set_option maxHeartbeats 400000 in
theorem boolAtom_any (b : Bool) (w : World) :
    Calls Tryd.prog 91 #[.bool b] w fun e w' => e = .returned (.agg #[.int .i64 2, .int .i64 (if b = true then 1 else 0), .string ⟨#[]⟩, .int .i64 0]) ∧ Below w.heap.size w w' := by
  cases b
  · go_enter Tryd.func91, Tryd.ntmps91
    go_wp2
    refine bodyPost_ret (v := .agg #[.int .i64 2, .int .i64 0, .string ⟨#[]⟩, .int .i64 0]) ?_ rfl ⟨rfl, (Below.refl _ _).alloc (Nat.le_refl _) _⟩
    simp [results, Tryd.results91, go_sem]
  · go_enter Tryd.func91, Tryd.ntmps91
    go_wp2
    refine bodyPost_ret (v := .agg #[.int .i64 2, .int .i64 1, .string ⟨#[]⟩, .int .i64 0]) ?_ rfl ⟨rfl, (Below.refl _ _).alloc (Nat.le_refl _) _⟩
    simp [results, Tryd.results91, go_sem]
set_option maxHeartbeats 400000 in
theorem intAtom_any (n : Int) (w : World) :
    Calls Tryd.prog 94 #[.int .i64 n] w fun e w' => e = .returned (.agg #[.int .i64 3, .int .i64 n, .string ⟨#[]⟩, .int .i64 0]) ∧ Below w.heap.size w w' := by
  go_enter Tryd.func94, Tryd.ntmps94
  go_wp2
  refine bodyPost_ret (v := .agg #[.int .i64 3, .int .i64 n, .string ⟨#[]⟩, .int .i64 0]) ?_ rfl ⟨rfl, (Below.refl _ _).alloc (Nat.le_refl _) _⟩
  simp [results, Tryd.results94, go_sem]
set_option maxHeartbeats 400000 in
theorem textAtom_any (s : ByteArray) (w : World) :
    Calls Tryd.prog 80 #[.string s] w fun e w' => e = .returned (.agg #[.int .i64 4, .int .i64 0, .string s, .int .i64 0]) ∧ Below w.heap.size w w' := by
  go_enter Tryd.func80, Tryd.ntmps80
  go_wp2
  refine bodyPost_ret (v := .agg #[.int .i64 4, .int .i64 0, .string s, .int .i64 0]) ?_ rfl ⟨rfl, (Below.refl _ _).alloc (Nat.le_refl _) _⟩
  simp [results, Tryd.results80, go_sem]
set_option maxHeartbeats 400000 in
theorem listAtom_any (a b : Int) (ad : Option Addr) (n c : Nat) (w : World) :
    Calls Tryd.prog 84 #[.agg #[.int .i64 a, .int .i64 b, .slice ad n c]] w fun e w' => e = .returned (.agg #[.int .i64 5, .int .i64 0, .string ⟨#[]⟩, .int .i64 n]) ∧ Below w.heap.size w w' := by
  go_enter Tryd.func84, Tryd.ntmps84
  go_wp2
  refine bodyPost_ret (v := .agg #[.int .i64 5, .int .i64 0, .string ⟨#[]⟩, .int .i64 n]) ?_ rfl ⟨rfl, below_two' _ _ _⟩
  simp [results, Tryd.results84, go_sem]
set_option maxHeartbeats 400000 in
theorem recAtom_any (a b : Int) (ad : Option Addr) (n c : Nat) (w : World) (hn : n ≤ 1000000) :
    Calls Tryd.prog 86 #[.agg #[.int .i64 a, .int .i64 b, .slice ad n c]] w fun e w' => e = .returned (.agg #[.int .i64 6, .int .i64 0, .string ⟨#[]⟩, .int .i64 (2 * n)]) ∧ Below w.heap.size w w' := by
  go_enter Tryd.func86, Tryd.ntmps86
  go_wp2
  refine bodyPost_ret (v := .agg #[.int .i64 6, .int .i64 0, .string ⟨#[]⟩, .int .i64 (2 * n)]) ?_ rfl ⟨rfl, below_two' _ _ _⟩
  simp [results, Tryd.results86, go_sem]
/-- A call of 'atom' through the interface. -/
def AtomM (a : At) (v : Value) : Prop := ∃ T x f rv, v = .iface T x ∧ (∀ w, (method 255 T x "loop.example/kilnyard/impl.atom").run Tryd.prog w = .ok (f, rv) w) ∧ (∀ w, (callFunc f #[rv]).run Tryd.prog w = .ok (.enter f #[rv]) w) ∧ ∀ w, Calls Tryd.prog f #[rv] w fun e w' => e = .returned (.agg #[.int .i64 a.kind, .int .i64 a.n, .string a.text, .int .i64 a.kids]) ∧ Below w.heap.size w w'
theorem aNone : AtomM ⟨1, 0, ⟨#[]⟩, 0⟩ (.iface 99 (.agg #[])) := ⟨_, _, _, _, rfl, mAtomNone, fun w => enterOf _ _ w (by simp), noneAtom_any⟩
theorem aBool (b : Bool) : AtomM ⟨2, if b = true then 1 else 0, ⟨#[]⟩, 0⟩ (.iface 100 (.bool b)) := ⟨_, _, _, _, rfl, mAtomBool _, fun w => enterOf _ _ w (by simp), boolAtom_any b⟩
theorem aInt (n : Int) : AtomM ⟨3, n, ⟨#[]⟩, 0⟩ (.iface 101 (.int .i64 n)) := ⟨_, _, _, _, rfl, mAtomInt _, fun w => enterOf _ _ w (by simp), intAtom_any n⟩
theorem aText (s : ByteArray) : AtomM ⟨4, 0, s, 0⟩ (.iface 65 (.string s)) := ⟨_, _, _, _, rfl, mAtomText _, fun w => enterOf _ _ w (by simp), textAtom_any s⟩
theorem aList (a b : Int) (ad : Option Addr) (n c : Nat) : AtomM ⟨5, 0, ⟨#[]⟩, n⟩ (.iface 70 (.agg #[.int .i64 a, .int .i64 b, .slice ad n c])) := ⟨_, _, _, _, rfl, mAtomList _ _ _ _ _, fun w => enterOf _ _ w (by simp), listAtom_any a b ad n c⟩
theorem aRec (a b : Int) (ad : Option Addr) (n c : Nat) (hn : n ≤ 1000000) : AtomM ⟨6, 0, ⟨#[]⟩, 2 * n⟩ (.iface 74 (.agg #[.int .i64 a, .int .i64 b, .slice ad n c])) := ⟨_, _, _, _, rfl, mAtomRec _ _ _ _ _, fun w => enterOf _ _ w (by simp), fun w => recAtom_any a b ad n c w hn⟩
set_option maxHeartbeats 400000 in
theorem textOf_any (s : ByteArray) (w : World) (hs : s.size ≤ maxLen) :
    Calls Tryd.prog 51 #[.string s] w fun e w' => w' = w ∧ (s.size ≤ 1000 ∧ e = .returned (.tuple #[.iface 65 (.string s), .string ⟨#[]⟩]) ∨ ¬ s.size ≤ 1000 ∧ e = .returned (.tuple #[.nilIface, .string ⟨#[108, 97, 114, 103, 101]⟩])) := by
  unfold maxLen at hs
  by_cases h : s.size ≤ 1000
  · have h2 : (s.size : Int) ≤ 1000 := by omega
    go_enter Tryd.func51, Tryd.ntmps51
    go_wp2
    exact bodyPost_ret (v := .tuple #[.iface 65 (.string s), .string ⟨#[]⟩]) (by simp [results, Tryd.results51, go_sem]) rfl ⟨rfl, .inl ⟨h, rfl⟩⟩
  · have h2 : (1000 : Int) < s.size := by omega
    go_enter Tryd.func51, Tryd.ntmps51
    go_wp2
    exact bodyPost_ret (v := .tuple #[.nilIface, .string ⟨#[108, 97, 114, 103, 101]⟩]) (by simp [results, Tryd.results51, go_sem]) rfl ⟨rfl, .inr ⟨h, rfl⟩⟩
end Go.Proofs.YtfookokepnnmoaaDoor
