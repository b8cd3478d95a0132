import Derived.Deep.RegionHeld3
import Derived.Test.YtpobfklbbkdglaaDoorJMake
import Derived.Test.YtpobfklbbkdglaaDoorJScope
namespace Go.Proofs.YtpobfklbbkdglaaDoor
open Go.RowKit
set_option maxRecDepth 20000
/-- Which faults the codes tell. -/
def CodesOk (cf : Nat → Nat) (F : Nat × Nat → Prop) : Prop := ∀ j, (cf j = 0 ∧ ∀ c, ¬ F (j, c)) ∨ (F (j, cf j) ∧ cf j ≠ 0 ∧ ∀ c, F (j, c) → cf j ≤ c)
def putC (cf : Nat → Nat) (k c : Nat) : Nat → Nat := fun j => if j = k then (if cf k = 0 ∨ c < cf k then c else cf k) else cf j
theorem CodesOk.put {cf : Nat → Nat} {F : Nat × Nat → Prop} (h : CodesOk cf F) (k c : Nat) (hc : c ≠ 0) : CodesOk (putC cf k c) (fun y => F y ∨ y = (k, c)) := by
  intro j
  unfold putC
  by_cases e : j = k
  · subst e
    rw [if_pos rfl]
    right
    rcases h j with ⟨h1, h2⟩ | ⟨h1, h2, h3⟩
    · rw [if_pos (.inl h1)]
      refine ⟨.inr rfl, hc, fun d hd => ?_⟩
      rcases hd with hd | hd
      · exact absurd hd (h2 d)
      · injection hd with _ hd; omega
    · by_cases q : c < cf j
      · rw [if_pos (.inr q)]
        refine ⟨.inr rfl, hc, fun d hd => ?_⟩
        rcases hd with hd | hd
        · have := h3 d hd; omega
        · injection hd with _ hd; omega
      · rw [if_neg (by omega)]
        refine ⟨.inl h1, h2, fun d hd => ?_⟩
        rcases hd with hd | hd
        · exact h3 d hd
        · injection hd with _ hd; omega
  · rw [if_neg e]
    rcases h j with ⟨h1, h2⟩ | ⟨h1, h2, h3⟩
    · left
      refine ⟨h1, fun d hd => ?_⟩
      rcases hd with hd | hd
      · exact h2 d hd
      · injection hd with hd _; exact e hd
    · right
      refine ⟨.inl h1, h2, fun d hd => ?_⟩
      rcases hd with hd | hd
      · exact h3 d hd
      · injection hd with hd _; exact absurd hd e
theorem CodesOk.congr {cf : Nat → Nat} {F G : Nat × Nat → Prop} (h : CodesOk cf F) (hfg : ∀ y, F y ↔ G y) : CodesOk cf G := by
  intro j
  rcases h j with ⟨h1, h2⟩ | ⟨h1, h2, h3⟩
  · exact .inl ⟨h1, fun c hc => h2 c ((hfg _).2 hc)⟩
  · exact .inr ⟨(hfg _).1 h1, h2, fun c hc => h3 c ((hfg _).2 hc)⟩
/-- The model's walk: its blocks, its tree. -/
structure Mx where
  wb : Nat
  gc : Nat
  gb : Nat
  g : Nat
  N : Nat
  cap : Nat
  gk : Nat
  ck : Nat
  nd : Nat → Nd
  o : List (List Nat)
def Mx.S (x : Mx) (k : Nat) : Prop := k = x.gc ∨ k = x.gb
def Mx.At (x : Mx) (W : World) (cf : Nat → Nat) (bn : Nat → Int) : Prop := BnAt W x.gc x.N (fun i => (cf i : Int)) ∧ BnAt W x.gb x.N bn
/-- What stays: the walk's own struct, the nodes, the kids. -/
def Mx.Tree (x : Mx) (W : World) : Prop := W.heap[x.wb]? = some (.cells #[.slice (some ⟨x.g, 0, none⟩) x.N x.cap, .slice (some ⟨x.gk, 0, none⟩) x.N x.ck, .slice (some ⟨x.gc, 0, none⟩) x.N x.N, .slice (some ⟨x.gb, 0, none⟩) x.N x.N] 50 (0, 0)) ∧ NodesAt W x.g x.N x.nd ∧ KG W x.gk x.N x.o
structure Mx.Ok (x : Mx) : Prop where
  ne : x.gc ≠ x.gb
  N : x.N ≤ 5000
  text : ∀ i, i < x.N → (x.nd i).text.size ≤ maxLen
  down : Down x.o
  kidded : ∀ k, k < x.N → Kidded x.nd x.o k
  len : x.o.length = x.N
  g : ¬ x.S x.g
  gk : ¬ x.S x.gk
  wb : ¬ x.S x.wb
  kids : ∀ k, (x.o.getD k []).length ≤ 5000
  place : ∀ k, ∀ j ∈ x.o.getD k [], j < x.N
  fit : ∀ k, k < x.N → FitAt x.nd x.o k
theorem Mx.At.lt {x : Mx} {W : World} {cf : Nat → Nat} {bn : Nat → Int} (h : x.At W cf bn) : ∀ j, x.S j → j < W.heap.size := by
  obtain ⟨⟨c1, h1, _⟩, c2, h2, _⟩ := h
  rintro j (rfl | rfl)
  · exact (Array.getElem?_eq_some_iff.1 h1).1
  · exact (Array.getElem?_eq_some_iff.1 h2).1
theorem Mx.At.go {x : Mx} {W W' : World} {cf : Nat → Nat} {bn : Nat → Int} (h : x.At W cf bn) (hb : Below W.heap.size W W') : x.At W' cf bn := by
  have hl := h.lt
  obtain ⟨⟨c1, h1, h3⟩, c2, h2, h4⟩ := h
  exact ⟨⟨c1, (hb.block _ (hl _ (.inl rfl))).trans h1, h3⟩, c2, (hb.block _ (hl _ (.inr rfl))).trans h2, h4⟩
theorem Mx.Tree.four {x : Mx} {W : World} (h : x.Tree W) : W.cell? ⟨x.wb, 0, none⟩ = some (.slice (some ⟨x.g, 0, none⟩) x.N x.cap) ∧ W.cell? ⟨x.wb, 1, none⟩ = some (.slice (some ⟨x.gk, 0, none⟩) x.N x.ck) ∧ W.cell? ⟨x.wb, 2, none⟩ = some (.slice (some ⟨x.gc, 0, none⟩) x.N x.N) ∧ W.cell? ⟨x.wb, 3, none⟩ = some (.slice (some ⟨x.gb, 0, none⟩) x.N x.N) := by
  refine ⟨?_, ?_, ?_, ?_⟩ <;> (unfold World.cell?; rw [h.1]; rfl)
/-- What is left behind by what happens. -/
def Mx.Ends (x : Mx) (w w' : World) (F : Nat × Nat → Prop) (bn : Nat → Int) (evs : List Ev) : Prop := Sv x.S w w' ∧ ∃ cf' bn', x.At w' cf' bn' ∧ CodesOk cf' (fun y => F y ∨ y ∈ fls evs) ∧ (fls evs = [] → bn' = apB bn evs)
theorem mends_join {x : Mx} {w wr w1 : World} {F : Nat × Nat → Prop} {bn bn1 : Nat → Int} {e1 e2 : List Ev} (hs : Sv x.S w wr) (hn : fls e1 = [] → bn1 = apB bn e1) (h2 : x.Ends wr w1 (fun y => F y ∨ y ∈ fls e1) bn1 e2) : x.Ends w w1 F bn (e1 ++ e2) := by
  obtain ⟨s2, c2, b2, a2, k2, n2⟩ := h2
  refine ⟨hs.trans s2, c2, b2, a2, k2.congr fun y => ?_, fun h => ?_⟩
  · rw [fls_append, List.mem_append]
    constructor
    · rintro ((h | h) | h)
      · exact .inl h
      · exact .inr (.inl h)
      · exact .inr (.inr h)
    · rintro (h | h | h)
      · exact .inl (.inl h)
      · exact .inl (.inr h)
      · exact .inr h
  · rw [fls_append] at h
    obtain ⟨e3, e4⟩ := List.append_eq_nil_iff.1 h
    rw [n2 e4, hn e3, apB_append]
theorem Mx.At.putC {x : Mx} {W : World} {cf : Nat → Nat} {bn : Nat → Int} (h : x.At W cf bn) (hne : x.gc ≠ x.gb) (k c : Nat) (hk : k < x.N) (hq : cf k = 0 ∨ c < cf k) : x.At (W.setCell ⟨x.gc, k, none⟩ (.int .i64 c)) (putC cf k c) bn := by
  refine ⟨?_, ?_⟩
  · have := h.1.set k hk (c : Int)
    have e : (fun j => if j = k then (c : Int) else ((cf j : Nat) : Int)) = fun i => ((Proofs.YtpobfklbbkdglaaDoor.putC cf k c i : Nat) : Int) := by
      funext j
      unfold Proofs.YtpobfklbbkdglaaDoor.putC
      split <;> rfl
    rw [e] at this
    exact this
  · obtain ⟨cur, h2, h3⟩ := h.2
    exact ⟨cur, (Below.heap_setCell _ _ _ _ (fun e => hne e.symm)).trans h2, h3⟩
theorem fault_end {x : Mx} {w w' : World} {F : Nat × Nat → Prop} {cf : Nat → Nat} {bn : Nat → Int} {k code : Nat} (hc : 0 < code) (hok : CodesOk cf F) (hs : Sv x.S w w') (h : x.At w' (putC cf k code) bn) : x.Ends w w' F bn [.flt k code] := by
  refine ⟨hs, _, bn, h, (hok.put k code (by omega)).congr fun y => ?_, fun h => by cases h⟩
  simp [fls]
set_option maxHeartbeats 1000000 in
theorem fault_any (x : Mx) (hx : x.Ok) (k code : Nat) (hc : 0 < code) (F : Nat × Nat → Prop) (cf : Nat → Nat) (bn : Nat → Int) (w : World) (hkN : k < x.N) (h : x.At w cf bn) (ht : x.Tree w) (hok : CodesOk cf F) :
    Calls Tryd.prog 46 #[.pointer (some ⟨x.wb, 0, none⟩), .int .i64 k, .int .i64 code] w fun e w' => e = .returned (.tuple #[]) ∧ x.Ends w w' F bn [.flt k code] := by
  obtain ⟨f0, f1, f2, f3⟩ := ht.four
  obtain ⟨c0, c1⟩ := h.1.cell k hkN
  have H := hid h
  have HX := hid hx
  have HOK := hid hok
  have hN5 := hx.N
  clear h hx ht hok
  by_cases hq : cf k = 0 ∨ code < cf k
  · have HEND := hid (fault_end (x := x) (w := w) hc HOK.out ((Sv.refl x.S w).setCell (p := ⟨x.gc, k, none⟩) (.inl (.inl rfl)) (.int .i64 code)) (H.out.putC HX.out.ne k code hkN hq))
    by_cases h0 : cf k = 0
    · rw [h0] at c0
      clear hq h0
      go_enter Tryd.func46, Tryd.ntmps46
      go_wp2
      go_end0
      exact ⟨rfl, HEND.out⟩
    · have hl : (code : Int) < (cf k : Int) := by omega
      have h1 : ((cf k : Int) == 0) = false := by rw [beq_eq_false_iff_ne]; omega
      clear hq h0
      go_enter Tryd.func46, Tryd.ntmps46
      go_wp2
      go_end0
      exact ⟨rfl, HEND.out⟩
  · have hl : ¬ (code : Int) < (cf k : Int) := by omega
    have h1 : ((cf k : Int) == 0) = false := by rw [beq_eq_false_iff_ne]; omega
    have e : putC cf k code = cf := by
      funext j
      unfold putC
      split
      · rename_i h; rw [h]
      · rfl
    have HEND := hid (fault_end (x := x) (w := w) (k := k) hc HOK.out (Sv.refl x.S w) (by rw [e]; exact H.out))
    clear hq e
    go_enter Tryd.func46, Tryd.ntmps46
    go_wp2
    go_end0
    exact ⟨rfl, HEND.out⟩
end Go.Proofs.YtpobfklbbkdglaaDoor
namespace Go.Proofs.YtpobfklbbkdglaaDoor
open Go.RowKit
set_option maxRecDepth 20000
/-- The names that are built, as the model lists them. -/
def builts2 : List (List UInt8) := [[98, 101, 103, 105, 110, 115], [99, 117, 116], [102, 97, 105, 108], [102, 105, 108, 101, 115], [105, 110, 116], [106, 111, 105, 110], [107, 101, 121, 115], [108, 101, 110], [114, 97, 110, 103, 101], [114, 101, 99, 111, 114, 100], [115, 111, 114, 116, 101, 100], [115, 112, 108, 105, 116], [116, 101, 120, 116], [117, 110, 105, 113, 117, 101], [119, 105, 116, 104, 111, 117, 116]]
theorem builts_both : (∀ l ∈ builts, l ∈ builts2) ∧ (∀ l ∈ builts2, l ∈ builts) := by decide
def built2S (i : Nat) : ByteArray := ⟨(builts2.getD i []).toArray⟩
theorem mem_builts2 (t : ByteArray) : isBuilt t = true ↔ ∃ i, i < 15 ∧ built2S i = t := by
  unfold isBuilt
  rw [decide_eq_true_iff]
  constructor
  · intro h
    obtain ⟨i, hl, e⟩ := List.getElem_of_mem (builts_both.1 _ h)
    exact ⟨i, hl, by simp [built2S, hl, e]⟩
  · rintro ⟨i, h, rfl⟩
    have hl : i < builts2.length := h
    refine builts_both.2 _ ?_
    simp [built2S, hl]
set_option maxHeartbeats 400000 in
theorem l3Builts_any (w : World) :
    Calls Tryd.prog 35 #[] w fun e w' => e = .returned (.slice (some ⟨w.heap.size, 0, none⟩) 15 15) ∧ w' = w.alloc (.cells (builts2.map fun x => Value.string ⟨x.toArray⟩).toArray 9) := by
  go_enter Tryd.func35, Tryd.ntmps35
  go_wp2
  go_ret
  exact ⟨rfl, rfl⟩
theorem built2_cell (w : World) (i : Nat) (h : i < 15) : (w.alloc (.cells (builts2.map fun x => Value.string ⟨x.toArray⟩).toArray 9)).cell? ⟨w.heap.size, i, none⟩ = some (.string (built2S i)) := by
  have hl : i < builts2.length := h
  rw [cell_new_row]
  simp [built2S, hl]
theorem hasBuilt_any (s : ByteArray) (w : World) (b : Nat) (hc : ∀ i, i < 15 → w.cell? ⟨b, i, none⟩ = some (.string (built2S i))) :
    Calls Tryd.prog 34 #[.slice (some ⟨b, 0, none⟩) 15 15, .string s] w fun e w' => e = .returned (.bool (isBuilt s)) ∧ w' = w := by
  refine (l1Has_any b 15 s built2S w (by omega) hc).mono ?_
  rintro e w' ⟨⟨rfl, h⟩ | ⟨rfl, h⟩, rfl⟩
  · exact ⟨ret_bool ((mem_builts2 s).2 h).symm, rfl⟩
  · refine ⟨ret_bool ?_, rfl⟩
    cases hq : isBuilt s with
    | false => rfl
    | true =>
      obtain ⟨i, hi, e⟩ := (mem_builts2 s).1 hq
      exact absurd e (h i hi)
/-- What a list of known names makes known. -/
def envL (L : List (ByteArray × Nat)) : Env := L.foldl (fun kn p => kn.ext p.1 p.2) builtEnv
theorem envL_snoc (L : List (ByteArray × Nat)) (p : ByteArray × Nat) : envL (L ++ [p]) = (envL L).ext p.1 p.2 := by simp [envL]
theorem envL_cut (L : List (ByteArray × Nat)) (t : ByteArray) (i : Nat) (h : ∀ q, i ≤ q → ∀ p, L[q]? = some p → ¬ p.1 = t) : envL L t = envL (L.take i) t := by
  induction hn : L.length - i generalizing i with
  | zero => rw [List.take_of_length_le (by omega)]
  | succ n ih =>
    rw [ih (i + 1) (fun q hq => h q (by omega)) (by omega), List.take_succ_eq_append_getElem (by omega), envL_snoc]
    unfold Env.ext
    rw [if_neg]
    intro e
    exact h i (Nat.le_refl _) _ (List.getElem?_eq_getElem (by omega)) e.symm
theorem envL_at (L : List (ByteArray × Nat)) (t : ByteArray) (i : Nat) (p : ByteArray × Nat) (hp : L[i]? = some p) (he : p.1 = t) (h : ∀ q, i < q → ∀ p, L[q]? = some p → ¬ p.1 = t) : envL L t = (p.2 : Int) := by
  obtain ⟨hl, e⟩ := List.getElem?_eq_some_iff.1 hp
  rw [envL_cut L t (i + 1) (fun q hq => h q (by omega)), List.take_succ_eq_append_getElem hl, e, envL_snoc]
  unfold Env.ext
  rw [if_pos he.symm]
/-- A list of known names, in a row of its own. -/
def KnAt (W : World) (g c : Nat) (L : List (ByteArray × Nat)) : Prop := L.length ≤ c ∧ c ≤ maxLen ∧ g < W.heap.size ∧ ∀ i p, L[i]? = some p → W.cell? ⟨g, i * 2, none⟩ = some (.string p.1) ∧ W.cell? ⟨g, i * 2 + 1, none⟩ = some (.int .i64 p.2)
set_option maxHeartbeats 2000000 in
theorem use_any (x : Mx) (hx : x.Ok) (k : Nat) (L : List (ByteArray × Nat)) (g c : Nat) (F : Nat × Nat → Prop) (cf : Nat → Nat) (bn : Nat → Int) (w : World) (hL : L.length ≤ 2000000) (h : x.At w cf bn) (ht : Stb x.S w x.Tree) (hok : CodesOk cf F) (hk : KnAt w g c L) (hkN : k < x.N) :
    Calls Tryd.prog 67 #[.pointer (some ⟨x.wb, 0, none⟩), .int .i64 k, .slice (some ⟨g, 0, none⟩) L.length c] w fun e w' => e = .returned (.tuple #[]) ∧ x.Ends w w' F bn (useE x.nd (envL L) k) := by
  obtain ⟨f0, f1, f2, f3⟩ := ht.now.four
  obtain ⟨c0, c1, c2, c3, c4⟩ := ht.now.2.1 k hkN
  obtain ⟨b0, b1⟩ := h.2.cell k hkN
  have H := hid h
  have HX := hid hx
  have HT := hid ht
  have HK := hid hk
  have HOK := hid hok
  have hN5 := hx.N
  obtain ⟨n, hn⟩ : ∃ n, L.length = n := ⟨_, rfl⟩
  have HNL := hid hn
  rw [hn] at hL ⊢
  clear h ht hk hx hok hn
  go_enter Tryd.func67, Tryd.ntmps67
  go_wp2
  clear f0 f1 f2 f3 c0 c1 c2 c3 c4 b0 b1
  go_loopw [6] (fun i wr => ∃ j : Nat, j ≤ n ∧ i = .int .i64 ((j : Int) - 1) ∧ (∀ q, j ≤ q → ∀ p, L[q]? = some p → ¬ p.1 = (x.nd k).text) ∧ Below w.heap.size w wr) (fun i _ => (intOf i + 1).toNat)
  case atStart => exact ⟨n, Nat.le_refl _, by go_num, fun q hq p hp => by have := (List.getElem?_eq_some_iff.1 hp).1; have := HNL.out; omega, Below.refl _ _⟩
  case round =>
    obtain ⟨j, hj, rfl, hno, hbw⟩ := hrel
    have HNO := hid hno
    have HBW := hid hbw
    have HA := hid (H.out.go hbw)
    have HSV : Hid (Sv x.S w wr) := Sv.of_below hbw
    clear hno hbw
    obtain ⟨f0, f1, f2, f3⟩ := (HT.out _ HSV.out).four
    obtain ⟨c0, c1, c2, c3, c4⟩ := (HT.out _ HSV.out).2.1 k hkN
    obtain ⟨b0, b1⟩ := HA.out.2.cell k hkN
    by_cases hlt : 0 < j
    · obtain ⟨i, rfl⟩ : ∃ i, j = i + 1 := ⟨j - 1, by omega⟩
      obtain ⟨p, hp⟩ : ∃ p, L[i]? = some p := ⟨_, List.getElem?_eq_getElem (by have := HNL.out; omega)⟩
      obtain ⟨d0, d1⟩ := HK.out.2.2.2 i p hp
      have d0 := (HBW.out.cell (p := ⟨g, i * 2, none⟩) HK.out.2.2.1).trans d0
      have d1 := (HBW.out.cell (p := ⟨g, i * 2 + 1, none⟩) HK.out.2.2.1).trans d1
      have hi1 : (((i + 1 : Nat) : Int) - 1) = (i : Int) := by omega
      rw [hi1]
      have HP := hid hp
      clear hp hi1
      cases he : (p.1.toList == (x.nd k).text.toList)
      · have HNE : Hid (¬ p.1 = (x.nd k).text) := fun h => by rw [h] at he; simp at he
        go_wp2
        go_region
        go_wp2
        go_roundw
        case rel => exact ⟨i, by omega, by go_num, fun q hq p' hp' => by
          by_cases e : q = i
          · subst e
            have := HP.out.symm.trans hp'
            injection this with this
            subst this
            exact HNE.out
          · exact HNO.out q (by omega) p' hp', HBW.out.drew⟩
        case measure => simp [intOf]
      · have HEQ : Hid (p.1 = (x.nd k).text) := bytes_eq he
        have EV : Hid (useE x.nd (envL L) k = [.bind k (p.2 : Int)]) := by
          show _ = _
          unfold useE
          rw [envL_at L (x.nd k).text i p HP.out HEQ.out (fun q hq => HNO.out q (by omega)), if_neg (by omega)]
        go_wp2
        go_region
        have HA2 : Hid (x.At wr.drew cf bn) := HA.out
        have HBW2 := hid HBW.out.drew
        have HS2 := hid HSV.out.drew
        clear f0 f1 f2 f3 c0 c1 c2 c3 c4 b0 b1 HA HBW HSV
        have d0 : wr.drew.cell? ⟨g, i * 2, none⟩ = some (.string p.1) := d0
        have d1 : wr.drew.cell? ⟨g, i * 2 + 1, none⟩ = some (.int .i64 p.2) := d1
        generalize wr.drew = w2 at *
        obtain ⟨f0, f1, f2, f3⟩ := (HT.out _ HS2.out).four
        obtain ⟨b0, b1⟩ := HA2.out.2.cell k hkN
        have HEND : Hid (x.Ends w (w2.setCell ⟨x.gb, k, none⟩ (.int .i64 p.2)).drew F bn (useE x.nd (envL L) k)) := by
          rw [EV.out]
          exact ⟨(HS2.out.setCell (p := ⟨x.gb, k, none⟩) (.inl (.inr rfl)) _).drew, cf, _, ⟨⟨_, (Below.heap_setCell _ _ _ _ (fun e => HX.out.ne e)).trans HA2.out.1.choose_spec.1, HA2.out.1.choose_spec.2⟩, HA2.out.2.set k hkN p.2⟩, HOK.out.congr (fun y => by simp [fls]), fun _ => rfl⟩
        go_wp2
        go_region
        go_wp2
        exact bodyPost_ret (results_none rfl _ _ _) rfl ⟨rfl, HEND.out⟩
    · obtain rfl : j = 0 := by omega
      have HENV : Hid (envL L (x.nd k).text = builtEnv (x.nd k).text) := by
        have := envL_cut L (x.nd k).text 0 (fun q hq => HNO.out q (by omega))
        rw [List.take_zero] at this
        exact this
      cases hbt : isBuilt (x.nd k).text
      · have EV : Hid (useE x.nd (envL L) k = [.bind k (-1), .flt k 9]) := by
          show _ = _
          unfold useE
          rw [HENV.out]
          unfold builtEnv
          rw [hbt]
          rfl
        have e0' : ∀ O, (wr.alloc O).cell? ⟨x.wb, 0, none⟩ = _ := fun O => ((HT.out _ (HSV.out.alloc O)).four).1
        have e3' : ∀ O, (wr.alloc O).cell? ⟨x.g, k * 5 + 3, none⟩ = _ := fun O => ((HT.out _ (HSV.out.alloc O)).2.1 k hkN).2.2.2.1
        have e0 : ∀ O, (wr.drew.alloc O).cell? ⟨x.wb, 0, none⟩ = _ := fun O => ((HT.out _ (HSV.out.drew.alloc O)).four).1
        have e3 : ∀ O, (wr.drew.alloc O).cell? ⟨x.g, k * 5 + 3, none⟩ = _ := fun O => ((HT.out _ (HSV.out.drew.alloc O)).2.1 k hkN).2.2.2.1
        go_wp2
        go_region_with (first
          | (go_at_call 35; refine (l3Builts_any _).mono ?_; rintro e w2 ⟨rfl, rfl⟩)
          | (go_at_call 34; refine (hasBuilt_any _ _ wr.heap.size (fun i hi => by exact built2_cell wr i hi)).mono ?_; rintro e w3 ⟨rfl, hw3⟩; rw [hw3, hbt]))
        all_goals
          have HS2 : Hid (Sv x.S w (wr.alloc (.cells (builts2.map fun x => Value.string ⟨x.toArray⟩).toArray 9)).drew) := (HSV.out.alloc _).drew
          have HA2 : Hid (x.At (wr.alloc (.cells (builts2.map fun x => Value.string ⟨x.toArray⟩).toArray 9)).drew cf bn) := Mx.At.go (W := wr) HA.out (((Below.refl _ _).alloc (Nat.le_refl _) _).drew)
          clear f0 f1 f2 f3 c0 c1 c2 c3 c4 b0 b1 HA HBW HSV e0 e3 e0' e3'
          generalize (wr.alloc (.cells (builts2.map fun x => Value.string ⟨x.toArray⟩).toArray 9)).drew = w2 at *
          obtain ⟨f0, f1, f2, f3⟩ := (HT.out _ HS2.out).four
          obtain ⟨b0, b1⟩ := HA2.out.2.cell k hkN
          go_wp2_with (first
            | (go_at_call 46; refine (fault_any x HX.out k 9 (by omega) F cf bn _ hkN HA2.out (HT.out _ HS2.out) HOK.out).mono ?_; rintro e w5 ⟨rfl, hen⟩; have HEN := hid hen; clear hen))
          go_end0
          rw [EV.out]
          obtain ⟨s5, cf5, bn5, a5, k5, n5⟩ := HEN.out
          exact ⟨rfl, HS2.out.trans s5, cf5, bn5, a5, k5, fun h => by cases h⟩
      · have EV : Hid (useE x.nd (envL L) k = [.bind k (-2)]) := by
          show _ = _
          unfold useE
          rw [HENV.out]
          unfold builtEnv
          rw [hbt]
          rfl
        have e0' : ∀ O, (wr.alloc O).cell? ⟨x.wb, 0, none⟩ = _ := fun O => ((HT.out _ (HSV.out.alloc O)).four).1
        have e3' : ∀ O, (wr.alloc O).cell? ⟨x.g, k * 5 + 3, none⟩ = _ := fun O => ((HT.out _ (HSV.out.alloc O)).2.1 k hkN).2.2.2.1
        have e0 : ∀ O, (wr.drew.alloc O).cell? ⟨x.wb, 0, none⟩ = _ := fun O => ((HT.out _ (HSV.out.drew.alloc O)).four).1
        have e3 : ∀ O, (wr.drew.alloc O).cell? ⟨x.g, k * 5 + 3, none⟩ = _ := fun O => ((HT.out _ (HSV.out.drew.alloc O)).2.1 k hkN).2.2.2.1
        go_wp2
        go_region_with (first
          | (go_at_call 35; refine (l3Builts_any _).mono ?_; rintro e w2 ⟨rfl, rfl⟩)
          | (go_at_call 34; refine (hasBuilt_any _ _ wr.heap.size (fun i hi => by exact built2_cell wr i hi)).mono ?_; rintro e w3 ⟨rfl, hw3⟩; rw [hw3, hbt]))
        all_goals
          have HS2 : Hid (Sv x.S w (wr.alloc (.cells (builts2.map fun x => Value.string ⟨x.toArray⟩).toArray 9)).drew) := (HSV.out.alloc _).drew
          have HA2 : Hid (x.At (wr.alloc (.cells (builts2.map fun x => Value.string ⟨x.toArray⟩).toArray 9)).drew cf bn) := Mx.At.go (W := wr) HA.out (((Below.refl _ _).alloc (Nat.le_refl _) _).drew)
          clear f0 f1 f2 f3 c0 c1 c2 c3 c4 b0 b1 HA HBW HSV e0 e3 e0' e3'
          generalize (wr.alloc (.cells (builts2.map fun x => Value.string ⟨x.toArray⟩).toArray 9)).drew = w2 at *
          obtain ⟨f0, f1, f2, f3⟩ := (HT.out _ HS2.out).four
          obtain ⟨b0, b1⟩ := HA2.out.2.cell k hkN
          have HEND : Hid (x.Ends w (w2.setCell ⟨x.gb, k, none⟩ (.int .i64 (-2))) F bn (useE x.nd (envL L) k)) := by
            rw [EV.out]
            exact ⟨HS2.out.setCell (p := ⟨x.gb, k, none⟩) (.inl (.inr rfl)) _, cf, _, ⟨⟨_, (Below.heap_setCell _ _ _ _ (fun e => HX.out.ne e)).trans HA2.out.1.choose_spec.1, HA2.out.1.choose_spec.2⟩, HA2.out.2.set k hkN (-2)⟩, HOK.out.congr (fun y => by simp [fls]), fun _ => rfl⟩
          go_wp2
          exact bodyPost_ret (results_none rfl _ _ _) rfl ⟨rfl, HEND.out⟩
end Go.Proofs.YtpobfklbbkdglaaDoor
