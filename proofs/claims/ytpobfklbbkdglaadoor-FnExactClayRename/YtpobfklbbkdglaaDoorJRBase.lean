import Derived.Shelf.Strconv.Clone
import Derived.Deep.RegionHeld3
import Derived.Test.YtpobfklbbkdglaaDoorJEnds
import Derived.Test.YtpobfklbbkdglaaDoorJName
import Derived.Test.YtpobfklbbkdglaaDoorJMany
import Derived.Test.YtpobfklbbkdglaaDoorJSGo
import Derived.Test.YtpobfklbbkdglaaDoorJVValid
namespace Go.Proofs.YtpobfklbbkdglaaDoor
open Go.RowKit Go.Maps Go.WideMaps
set_option maxRecDepth 20000
theorem str_ne {a b : ByteArray} (h : ¬ a = b) : (a.toList == b.toList) = false := by
  cases hq : (a.toList == b.toList) with
  | false => rfl
  | true => exact absurd (bytes_eq hq) h
set_option maxHeartbeats 1000000 in
theorem isBuilt_any (s : ByteArray) (w : World) (hE : BEnv w) :
    Calls Tryd.prog 60 #[.string s] w fun e w' => e = .returned (.bool (isBuilt s)) ∧ w' = w := by
  obtain ⟨t, fr, hg⟩ := hE
  have HG := hid hg
  clear hg
  go_enter Tryd.func60, Tryd.ntmps60
  go_wp2_with (refine wpList_load_row rfl 110 (.global 0) rfl 0 rfl t builtArr fr (.array 15 9) HG.out Tryd.underlying110 rfl (by kernel_rfl) ?_)
  go_loop [6] (fun i => ∃ (k : Nat), k ≤ 15 ∧ i = .int .i64 k ∧ ∀ q, q < k → ¬ builtS q = s) (fun i => 15 - (intOf i).toNat)
  case atStart => exact ⟨0, Nat.zero_le _, rfl, fun q h => absurd h (Nat.not_lt_zero _)⟩
  case round =>
    obtain ⟨k, hk, rfl, hno⟩ := hrel
    have HNO := hid hno
    clear hno
    by_cases hlt : k < 15
    · have hidx := index_builts k hlt
      by_cases he : builtS k = s
      · have HB : Hid (isBuilt s = true) := (mem_builts s).2 ⟨k, hlt, he⟩
        go_wp2
        go_ret
        exact ⟨ret_bool HB.out.symm, rfl⟩
      · have hq := str_ne he
        have HNX : Hid (∀ q, q < k + 1 → ¬ builtS q = s) := fun q h => by
          rcases Nat.lt_or_eq_of_le (Nat.lt_succ_iff.1 h) with h | h
          · exact HNO.out q h
          · rw [h]; exact he
        go_wp2
        go_round
        case rel => exact ⟨k + 1, by omega, by go_num, HNX.out⟩
        case measure => simp [intOf]; omega
    · obtain rfl : k = 15 := by omega
      have HB : Hid (isBuilt s = false) := by
        show _ = _
        cases hq : isBuilt s with
        | false => rfl
        | true =>
          obtain ⟨i, hi, he⟩ := (mem_builts s).1 hq
          exact absurd he (HNO.out i hi)
      go_wp2
      go_ret
      exact ⟨ret_bool HB.out.symm, rfl⟩
set_option maxHeartbeats 1000000 in
theorem indexText_any (tb b N cap : Nat) (nd : Nat → Nd) (s : ByteArray) (w : World) (hN : N ≤ 1048576) (hb : b < w.heap.size) (hn : NodesAt w b N nd) (ht : w.cell? ⟨tb, 0, none⟩ = some (.string s)) :
    Calls Tryd.prog 81 #[.slice (some ⟨b, 0, none⟩) N cap, .func (.func 62) #[] #[.pointer (some ⟨tb, 0, none⟩)]] w fun e w' => FirstP N (fun i => (nd i).text = s) e ∧ Below w.heap.size w w' := by
  have lt := World.block_lt_of_cell? w _ ht
  have HS := hid hn
  have HT := hid ht
  clear hn ht
  go_enter Tryd.func81, Tryd.ntmps81
  go_wp2
  go_loopw [8] (fun i wr => ∃ j : Nat, j ≤ N ∧ i = .int .i64 j ∧ (∀ i, i < j → ¬ (nd i).text = s) ∧ Below w.heap.size w wr) (fun i _ => N - (intOf i).toNat)
  case atStart => exact ⟨0, Nat.zero_le _, rfl, fun i h => absurd h (Nat.not_lt_zero _), Below.refl _ _⟩
  case round =>
    obtain ⟨j, hj, rfl, hin, hbw⟩ := hrel
    have HBW := hid hbw
    have HIN := hid hin
    clear hbw hin
    by_cases hlt : j < N
    · obtain ⟨a0, a1, a2, a3, a4⟩ := (HS.out.below HBW.out hb) j hlt
      have HN := hid (HBW.out.alloc HBW.out.size (.cells #[.int .i64 (nd j).kind, .int .i64 (nd j).op, .int .i64 (nd j).n, .string (nd j).text, .int .i64 (nd j).kids] 58))
      have ht' := (HN.out.cell (p := ⟨tb, 0, none⟩) lt).trans HT.out
      by_cases c1 : (nd j).text = s
      · have HC := hid c1
        have hq : ((nd j).text.toList == s.toList) = true := by rw [c1]; simp
        clear c1
        go_wp2
        go_ret
        exact ⟨.inl ⟨j, hlt, rfl, HC.out, HIN.out⟩, HN.out⟩
      · have HX := hid (none_succ HIN.out c1)
        have hq := str_ne c1
        clear c1
        go_wp2
        go_roundw
        case rel => exact ⟨j + 1, by omega, by go_num, HX.out, HN.out⟩
        case measure => simp [intOf]; omega
    · obtain rfl : j = N := by omega
      go_wp2
      go_ret
      exact ⟨.inr ⟨rfl, HIN.out⟩, HBW.out⟩
set_option maxHeartbeats 1000000 in
theorem containsText_any (tb b N cap : Nat) (nd : Nat → Nd) (s : ByteArray) (w : World) (hN : N ≤ 1048576) (hb : b < w.heap.size) (hn : NodesAt w b N nd) (ht : w.cell? ⟨tb, 0, none⟩ = some (.string s)) :
    Calls Tryd.prog 61 #[.slice (some ⟨b, 0, none⟩) N cap, .func (.func 62) #[] #[.pointer (some ⟨tb, 0, none⟩)]] w fun e w' => Says e (∃ i, i < N ∧ (nd i).text = s) ∧ Below w.heap.size w w' := by
  have HS := hid hn
  have HT := hid ht
  clear hn ht
  go_enter Tryd.func61, Tryd.ntmps61
  go_wp2_with (go_at_call 81; refine (indexText_any tb b N cap nd s _ hN hb HS.out HT.out).mono ?_; rintro e w' ⟨⟨i, hi1, rfl, hP, hno⟩ | ⟨rfl, hno⟩, hb2⟩)
  · have HP := hid hP
    clear hP
    go_ret
    exact ⟨says_t ⟨i, hi1, HP.out⟩, hb2⟩
  · go_ret
    exact ⟨says_f (fun ⟨i, h1, h2⟩ => hno i h1 h2), hb2⟩
end Go.Proofs.YtpobfklbbkdglaaDoor
namespace Go.Proofs.YtpobfklbbkdglaaDoor
open Go.RowKit
set_option maxRecDepth 20000
/-- A text that is a name and is not there yet. -/
def FreshT (nd : Nat → Nd) (N : Nat) (s : ByteArray) : Prop := NameOk s ∧ isBuilt s = false ∧ ¬ ∃ i, i < N ∧ (nd i).text = s
def LocAt (nd : Nat → Nd) (N : Nat) (at_ : Int) : Prop := ∃ a : Nat, at_ = (a : Int) ∧ a < N ∧ isLoc nd a = true
def renN (nd : Nat → Nd) (bn : Nat → Int) (a : Nat) (s : ByteArray) (i : Nat) : Nd := if i = a ∨ bn i = (a : Int) then { nd i with text := s } else nd i
/-- What renaming tells. -/
def RenI (nd : Nat → Nd) (N : Nat) (at_ : Int) (s : ByteArray) (c : Int) (M : Nat) (nd' : Nat → Nd) : Prop :=
  (c = 1 ∧ M = 0 ∧ ¬ FaultI nd N 0 0) ∨ (FaultI nd N 0 0 ∧ ((c = 2 ∧ M = 0 ∧ ¬ LocAt nd N at_) ∨ ∃ a : Nat, at_ = (a : Int) ∧ a < N ∧ isLoc nd a = true ∧
    ((c = 3 ∧ M = 0 ∧ ¬ FreshT nd N s) ∨ (FreshT nd N s ∧ c = 0 ∧ M = N ∧ ∃ bn, BindI nd N N bn ∧ nd' = renN nd bn a s))))
theorem RenI.unique {nd : Nat → Nd} {N M M' : Nat} {at_ c c' : Int} {s : ByteArray} {nd' nd'' : Nat → Nd} (h : RenI nd N at_ s c M nd') (h' : RenI nd N at_ s c' M' nd'') : c = c' ∧ M = M' ∧ (M ≠ 0 → nd' = nd'') := by
  rcases h with ⟨rfl, rfl, h⟩ | ⟨hf, h⟩
  · rcases h' with ⟨rfl, rfl, _⟩ | ⟨hf', _⟩
    · exact ⟨rfl, rfl, fun h => absurd rfl h⟩
    · exact absurd hf' h
  · rcases h' with ⟨_, _, h'⟩ | ⟨_, h'⟩
    · exact absurd hf h'
    · rcases h with ⟨rfl, rfl, h⟩ | ⟨a, ha, hN, hl, h⟩
      · rcases h' with ⟨rfl, rfl, _⟩ | ⟨a, ha, hN, hl, _⟩
        · exact ⟨rfl, rfl, fun h => absurd rfl h⟩
        · exact absurd ⟨a, ha, hN, hl⟩ h
      · rcases h' with ⟨_, _, h'⟩ | ⟨a', ha', _, _, h'⟩
        · exact absurd ⟨a, ha, hN, hl⟩ h'
        · have e : a = a' := by omega
          subst e
          rcases h with ⟨rfl, rfl, h⟩ | ⟨hfr, rfl, rfl, bn, hb, rfl⟩
          · rcases h' with ⟨rfl, rfl, _⟩ | ⟨hfr, _⟩
            · exact ⟨rfl, rfl, fun h => absurd rfl h⟩
            · exact absurd hfr h
          · rcases h' with ⟨_, _, h'⟩ | ⟨_, rfl, hM, bn', hb', rfl⟩
            · exact absurd hfr h'
            · subst hM
              exact ⟨rfl, rfl, fun h0 => by rw [(hb.unique hb').2 h0]⟩
/-- A node's five cells. -/
def ndL (y : Nd) : List Value := [.int .i64 y.kind, .int .i64 y.op, .int .i64 y.n, .string y.text, .int .i64 y.kids]
def rowL (f : Nat → Nd) (j : Nat) : List Value := (List.range j).flatMap fun i => ndL (f i)
theorem rowL_succ (f : Nat → Nd) (j : Nat) : rowL f (j + 1) = rowL f j ++ ndL (f j) := by
  unfold rowL
  rw [List.range_succ, List.flatMap_append]
  simp
theorem rowL_get (f : Nat → Nd) (j i t : Nat) (hi : i < j) (ht : t < 5) : (rowL f j)[i * 5 + t]? = (ndL (f i))[t]? := by
  have hlen : ∀ k, (rowL f k).length = k * 5 := fun k => by
    induction k with
    | zero => rfl
    | succ k ih => rw [rowL_succ, List.length_append, ih]; simp [ndL]; omega
  induction j with
  | zero => omega
  | succ j ih =>
    rw [rowL_succ]
    by_cases h : i < j
    · rw [List.getElem?_append_left (by rw [hlen]; omega), ih h]
    · obtain rfl : i = j := by omega
      rw [List.getElem?_append_right (by rw [hlen]; omega), hlen, Nat.add_sub_cancel_left]
/-- What a row that was appended holds. -/
theorem nodes_of_own {W : World} {B n : Nat} {v : Value} {f : Nat → Nd} (h : W.ownsRow B 58 5 v n (rowL f n)) (h0 : n ≠ 0) : ∃ g c, v = .slice (some ⟨g, 0, none⟩) n c ∧ B ≤ g ∧ g < W.heap.size ∧ NodesAt W g n f := by
  obtain ⟨_, ⟨_, rfl⟩ | ⟨g, cap, cur, rfl, hg, hh, hn, _, hs, ht⟩⟩ := h
  · exact absurd rfl h0
  · refine ⟨g, cap, rfl, hg, (Array.getElem?_eq_some_iff.1 hh).1, fun i hi => ?_⟩
    have e : ∀ t, t < 5 → W.cell? ⟨g, i * 5 + t, none⟩ = (ndL (f i))[t]? := fun t ht5 => by
      rw [cell_hp hh]
      have : (cur.toList.take (n * 5))[i * 5 + t]? = (rowL f n)[i * 5 + t]? := by rw [ht]
      rw [List.getElem?_take_of_lt (by omega), Array.getElem?_toList] at this
      rw [this, rowL_get f n i t hi ht5]
    exact ⟨e 0 (by omega), e 1 (by omega), e 2 (by omega), e 3 (by omega), e 4 (by omega)⟩
theorem cell_five_new (w : World) (a b c d f : Value) (t : TypeId) : ∀ j u, [a, b, c, d, f][j]? = some u → (w.alloc (.cells #[a, b, c, d, f] t)).cell? ((⟨w.heap.size, 0, none⟩ : Addr).add j) = some u := by
  intro j u hj
  have h : (w.alloc (.cells #[a, b, c, d, f] t)).cell? ⟨w.heap.size, j, none⟩ = #[a, b, c, d, f][j]? := cell_new_row w _ t j
  have e : ((⟨w.heap.size, 0, none⟩ : Addr).add j) = ⟨w.heap.size, j, none⟩ := by unfold Addr.add; simp; intro h; exact h.symm
  rw [e, h, ← hj]; simp
theorem cell_five_new1 (w : World) (X : Obj) (a b c d f : Value) (t : TypeId) : ∀ j u, [a, b, c, d, f][j]? = some u → ((w.alloc X).alloc (.cells #[a, b, c, d, f] t)).cell? ((⟨w.heap.size + 1, 0, none⟩ : Addr).add j) = some u := by
  intro j u hj
  have h := cell_five_new (w.alloc X) a b c d f t j u hj
  rw [World.size_alloc] at h
  exact h
/-- The tree and the result's place, ahead of all that the call makes. -/
theorem ren_cells {w W : World} {b N cap : Nat} (h : Below (w.heap.size + 2) ((w.alloc (.cells #[.slice (some ⟨b, 0, none⟩) N cap] 31)).alloc (.cells #[.slice none 0 0] 31)) W) :
    W.cell? ⟨w.heap.size, 0, none⟩ = some (.slice (some ⟨b, 0, none⟩) N cap) ∧ W.heap[w.heap.size + 1]? = some (.cells #[.slice none 0 0] 31 (0, 0)) ∧ Below w.heap.size w W ∧ w.heap.size + 2 ≤ W.heap.size := by
  refine ⟨?_, ?_, ?_, ?_⟩
  · rw [h.cell (p := ⟨w.heap.size, 0, none⟩) (by show w.heap.size < w.heap.size + 2; omega), cell_alloc_lt _ _ _ _ (by simp)]
    exact cell_new_row w _ _ 0
  · rw [h.block _ (by omega)]
    have := heap_alloc_new (w.alloc (.cells #[.slice (some ⟨b, 0, none⟩) N cap] 31)) (.cells #[.slice none 0 0] 31)
    rw [World.size_alloc] at this
    exact this
  · exact (((Below.refl w.heap.size w).alloc (Nat.le_refl _) _).alloc (by simp) _).trans (h.mono (by omega))
  · have := h.size
    simpa using this
theorem one_cell {W : World} {r : Nat} {x : Value} {t : TypeId} (h : W.heap[r]? = some (.cells #[x] t (0, 0))) : W.cell? ⟨r, 0, none⟩ = some x ∧ W.frozen? ⟨r, 0, none⟩ = false := ⟨cell_hp h 0, frozen_hp h 0⟩
theorem one_set {W : World} {r : Nat} {x : Value} {t : TypeId} (h : W.heap[r]? = some (.cells #[x] t (0, 0))) (y : Value) : (W.setCell ⟨r, 0, none⟩ y).heap[r]? = some (.cells #[y] t (0, 0)) := by
  rw [set_at y h]; rfl
end Go.Proofs.YtpobfklbbkdglaaDoor
namespace Go.Proofs.YtpobfklbbkdglaaDoor
open Go.RowKit Go.Shelf
def cl_ren : Go.Shelf.Ren := ⟨fun | 316 => 63 | n => n, fun | 5 => 5 | 9 => 9 | 3 => 3 | 4 => 4 | 37 => 111 | 127 => 115 | n => n, fun n => n⟩
theorem laysCl : Go.Proofs.LaysM.n316 Tryd.prog cl_ren where
  mixed := by kernel_rfl
  f316 := Tryd.func63.trans (congrArg some (by kernel_rfl))
  t0 := Tryd.underlying0
  a0 := Tryd.isAgg0
  z0 := Tryd.sizeOf0
  v0 := Tryd.zeroValue0
  t3 := Tryd.underlying3
  a3 := Tryd.isAgg3
  z3 := Tryd.sizeOf3
  v3 := Tryd.zeroValue3
  t4 := Tryd.underlying4
  a4 := Tryd.isAgg4
  z4 := Tryd.sizeOf4
  v4 := Tryd.zeroValue4
  t9 := Tryd.underlying9
  a9 := Tryd.isAgg9
  z9 := Tryd.sizeOf9
  v9 := Tryd.zeroValue9
  t37 := Tryd.underlying111
  a37 := Tryd.isAgg111
  z37 := Tryd.sizeOf111
  v37 := Tryd.zeroValue111
  t127 := Tryd.underlying115
  a127 := Tryd.isAgg115
  z127 := Tryd.sizeOf115
  v127 := Tryd.zeroValue115
  t5 := Tryd.underlying5
  a5 := Tryd.isAgg5
  z5 := Tryd.sizeOf5
  v5 := Tryd.zeroValue5
  i0 := by kernel_rfl
  i3 := by kernel_rfl
  i4 := by kernel_rfl
  i9 := by kernel_rfl
  i37 := by kernel_rfl
  i127 := by kernel_rfl
  i5 := by kernel_rfl
theorem clone_any (s : ByteArray) (w : World) (hs : s.size ≤ 1048576) :
    Calls Tryd.prog 39 #[.string s] w fun e w' => e = .returned (.string s) ∧ Below w.heap.size w w' := by
  have HC : Hid (∀ W, Calls Tryd.prog 63 #[.string s] W fun e w' => e = .returned (.string s) ∧ Below W.heap.size W w') := fun W => Any.stringslite_Clone laysCl s W (by omega)
  go_enter Tryd.func39, Tryd.ntmps39
  go_wp2_with fail
  refine (HC.out _).mono ?_
  rintro e w1 ⟨rfl, hb⟩
  have HB := hid hb
  clear hb
  go_wp2
  go_ret
  exact ⟨rfl, HB.out⟩
end Go.Proofs.YtpobfklbbkdglaaDoor
namespace Go.Proofs.YtpobfklbbkdglaaDoor
open Go.RowKit Go.Maps Go.WideMaps
set_option maxRecDepth 20000
def keyI (k : Nat) : Lit := .int .i64 (k : Int)
theorem keyI_ne {a b : Nat} (h : ¬ a = b) : keyI a ≠ keyI b := fun e => h (by unfold keyI at e; injection e with _ e; omega)
theorem keyI_wf {k : Nat} (h : k ≤ 1048576) : (Lit.int .i64 (k : Int)).wf = true := by
  have e : IntKind.i64.min = -9223372036854775808 := by decide
  simp [Lit.wf, e]
  omega
theorem keyI_key (k : Nat) : WideAt.IsKeyLit (keyI k) := by simp [keyI, WideAt.IsKeyLit]
/-- The set of the places of a name: its maker, and those ahead of j that it binds. -/
def PlInv (D : DataW Unit) (a j : Nat) (bn : Nat → Int) : Prop := ∀ k : Nat, Maps.has D (keyI k) = true ↔ k = a ∨ (k < j ∧ bn k = (a : Int))
theorem PlInv_start {D : DataW Unit} (hD : ∀ l, Maps.has D l = false) (hT : Tidy D) (a : Nat) (bn : Nat → Int) : PlInv (D.put (keyI a) (.agg [])) a 0 bn := by
  intro k
  by_cases e : a = k
  · subst e
    exact ⟨fun _ => .inl rfl, fun _ => Maps.has_put_same hT.isMap (keyI_key a) _⟩
  · rw [Maps.has_put_other (keyI_ne fun h => e h.symm), hD]
    constructor
    · intro h; cases h
    · rintro (h | ⟨h, _⟩)
      · exact absurd h.symm e
      · exact absurd h (Nat.not_lt_zero _)
theorem PlInv_yes {D : DataW Unit} {a j : Nat} {bn : Nat → Int} (hT : Tidy D) (h : PlInv D a j bn) (hj : bn j = (a : Int)) : PlInv (D.put (keyI j) (.agg [])) a (j + 1) bn := by
  intro k
  by_cases e : j = k
  · subst e
    exact ⟨fun _ => .inr ⟨by omega, hj⟩, fun _ => Maps.has_put_same hT.isMap (keyI_key j) _⟩
  · rw [Maps.has_put_other (keyI_ne fun h => e h.symm), h k]
    constructor
    · rintro (h | ⟨h, h2⟩)
      · exact .inl h
      · exact .inr ⟨by omega, h2⟩
    · rintro (h | ⟨h, h2⟩)
      · exact .inl h
      · exact .inr ⟨by omega, h2⟩
theorem PlInv_no {D : DataW Unit} {a j : Nat} {bn : Nat → Int} (h : PlInv D a j bn) (hj : ¬ bn j = (a : Int)) : PlInv D a (j + 1) bn := by
  intro k
  rw [h k]
  constructor
  · rintro (h | ⟨h, h2⟩)
    · exact .inl h
    · exact .inr ⟨by omega, h2⟩
  · rintro (h | ⟨h, h2⟩)
    · exact .inl h
    · rcases Nat.lt_or_eq_of_le (Nat.lt_succ_iff.1 h) with h | h
      · exact .inr ⟨h, h2⟩
      · subst h; exact absurd h2 hj
set_option maxHeartbeats 2000000 in
theorem placesOf_any (g N c a : Nat) (bn : Nat → Int) (w : World) (hN : N ≤ 1048576) (ha : a < N) (hg : g < w.heap.size) (hc : ∀ i, i < N → w.cell? ⟨g, i, none⟩ = some (.int .i64 (bn i))) :
    Calls Tryd.prog 38 #[.slice (some ⟨g, 0, none⟩) N c, .int .i64 a] w fun e w' => ∃ n D, e = .returned (.map (some w.heap.size)) ∧ w'.ownsMap Tryd.prog 3 unitElem w.heap.size n D ∧ PlInv D a N bn ∧ Below w.heap.size w w' := by
  have HC := hid hc
  clear hc
  have hmm := @run_makeMap Tryd.prog
  have hT0 := (World.ownsMap_made (H := Unit) w Tryd.prog 3 unitElem).tidy (int_keyed Tryd.underlying3)
  obtain ⟨w1, hrun, hown1, hgrow1⟩ := (World.ownsMap_made (H := Unit) w Tryd.prog 3 unitElem).update (int_keyed Tryd.underlying3) Tryd.underlying65 (by unfold maxLen; omega) (keyOf_int_mk Tryd.underlying3 (keyI_wf (k := a) (by omega))) unitElem_mk
  have HO1 := hid hown1
  have HI1 := hid (PlInv_start (D := .map []) (fun l => by simp [Maps.has_eq]) hT0 a bn)
  have HB1 := hid (((Below.refl w.heap.size w).alloc (Nat.le_refl _) (.map #[] 0)).grown hgrow1 (by simp) (fun k e => by injection e with e; omega))
  clear hown1 hgrow1 hT0
  go_enter Tryd.func38, Tryd.ntmps38
  go_wp2
  clear hmm hrun
  go_loopw [14] (fun i wr => ∃ (j n : Nat) (D : DataW Unit), j ≤ N ∧ n ≤ j + 1 ∧ i = .int .i64 j ∧ wr.ownsMap Tryd.prog 3 unitElem w.heap.size n D ∧ PlInv D a j bn ∧ Below w.heap.size w wr) (fun i _ => N - (intOf i).toNat)
  case atStart => exact ⟨0, 1, _, Nat.zero_le _, Nat.le_refl _, rfl, HO1.out, HI1.out, HB1.out⟩
  case round =>
    obtain ⟨j, n, D, hj, hn, rfl, hown, hinv, hbw⟩ := hrel
    have HBW := hid hbw
    have HINV := hid hinv
    have HOWN := hid hown
    clear hbw hinv hown
    by_cases hlt : j < N
    · have c0 := (HBW.out.cell (p := ⟨g, j, none⟩) hg).trans (HC.out j hlt)
      by_cases he : bn j = (a : Int)
      · have hT := HOWN.out.tidy (int_keyed Tryd.underlying3)
        have HN := hid (PlInv_yes hT HINV.out he)
        obtain ⟨w2, hrun, hown2, hgrow2⟩ := HOWN.out.update (int_keyed Tryd.underlying3) Tryd.underlying65 (by unfold maxLen; omega) (keyOf_int_mk Tryd.underlying3 (keyI_wf (k := j) (by omega))) unitElem_mk
        have HO2 := hid hown2
        have HB2 := hid (HBW.out.grown hgrow2 HBW.out.size (fun k e => by injection e with e; omega))
        rw [he] at c0
        clear hown2 hgrow2 hT he
        go_wp2
        go_roundw
        case rel => exact ⟨j + 1, n + 1, _, by omega, by omega, by go_num, HO2.out, HN.out, HB2.out⟩
        case measure => simp [intOf]; omega
      · have HN := hid (PlInv_no HINV.out he)
        have hq : (bn j == (a : Int)) = false := by simp [he]
        clear he
        go_wp2
        go_roundw
        case rel => exact ⟨j + 1, n, _, by omega, by omega, by go_num, HOWN.out, HN.out, HBW.out⟩
        case measure => simp [intOf]; omega
    · obtain rfl : j = N := by omega
      go_wp2
      go_ret
      exact ⟨n, D, rfl, HOWN.out, HINV.out, HBW.out⟩
end Go.Proofs.YtpobfklbbkdglaaDoor
namespace Go.Proofs.YtpobfklbbkdglaaDoor
open Go.RowKit
set_option maxRecDepth 20000
set_option maxHeartbeats 2000000 in
theorem heldNodes_any (g N cap : Nat) (w : World) (hN : N ≤ 1048576) (hg : Filling w g N N mkNd) :
    Calls Tryd.prog 40 #[.slice (some ⟨g, 0, none⟩) N cap, .int .i64 1] w fun e w' => e = .returned (.int .i64 (1 + 5 * N : Nat)) ∧ Below w.heap.size w w' := by
  have HG := hid hg
  clear hg
  go_enter Tryd.func40, Tryd.ntmps40
  go_wp2
  go_loopw [1, 5] (fun k i wr => ∃ (j : Nat), i = .int .i64 j ∧ k = .int .i64 (1 + 5 * j : Nat) ∧ j ≤ N ∧ Below w.heap.size w wr) (fun _ i _ => N - (intOf i).toNat)
  case atStart => exact ⟨0, rfl, rfl, Nat.zero_le _, Below.refl _ _⟩
  case round =>
    obtain ⟨j, rfl, rfl, hj, hbw⟩ := hrel
    have HBW := hid hbw
    clear hbw
    by_cases hlt : j < N
    · have HF := hid (HG.out.next HBW.out)
      obtain ⟨a0, a1, a2, a3, a4⟩ := HF.out.2 j hlt
      have e0 : (mkNd j).kind = 1 + 5 * (j : Int) := by unfold mkNd; simp
      have e1 : (mkNd j).op = 1 + 5 * (j : Int) + 1 := by unfold mkNd; simp; omega
      have e2 : (mkNd j).n = 1 + 5 * (j : Int) + 1 + 1 := by unfold mkNd; simp; omega
      have e4 : (mkNd j).kids = 1 + 5 * (j : Int) + 1 + 1 + 1 + 1 := by unfold mkNd; simp; omega
      rw [e0] at a0
      rw [e1] at a1
      rw [e2] at a2
      rw [e4] at a4
      have e3 : (mkNd j).text = mtxt (4 + 5 * j) := rfl
      rw [e3] at a3
      have HTN : Hid ((1 + 5 * (j : Int) + 1 + 1 + 1).toNat = 4 + 5 * j) := by show _ = _; omega
      have hgr : g < wr.heap.size := World.block_lt_of_cell? wr _ a0
      clear e0 e1 e2 e3 e4
      go_wp2
      go_region_with (go_at_call 54; refine (markText_int _ _ (by omega) (by omega)).mono ?_; rintro e w1 ⟨rfl, hb1⟩; rw [HTN.out]; have HB1 := hid hb1; have x3 : w1.cell? ⟨g, j * 5 + 3, none⟩ = some (.string (mtxt (4 + 5 * j))) := (hb1.cell (p := ⟨g, j * 5 + 3, none⟩) hgr).trans a3; have x4 : w1.cell? ⟨g, j * 5 + 4, none⟩ = some (.int .i64 (1 + 5 * (j : Int) + 1 + 1 + 1 + 1)) := (hb1.cell (p := ⟨g, j * 5 + 4, none⟩) hgr).trans a4; clear hb1)
      all_goals go_wp2
      all_goals
        go_roundw
        case rel => exact ⟨j + 1, by go_num, by go_num, by omega, HBW.out.drew.trans (HB1.out.mono HBW.out.size)⟩
        case measure => simp [intOf]; omega
    · obtain rfl : j = N := by omega
      go_wp2
      go_ret
      exact ⟨ret_int (by omega), HBW.out⟩
set_option maxHeartbeats 1000000 in
theorem heldTree_any (g N cap : Nat) (w : World) (hN : N ≤ 1048576) (hg : Filling w g N N mkNd) :
    Calls Tryd.prog 21 #[.agg #[.slice (some ⟨g, 0, none⟩) N cap], .int .i64 1] w fun e w' => e = .returned (.int .i64 (1 + 5 * N : Nat)) ∧ Below w.heap.size w w' := by
  have HB0 := hid ((Below.refl w.heap.size w).alloc (Nat.le_refl _) (.cells #[.slice (some ⟨g, 0, none⟩) N cap] 31))
  have HF0 := hid (hg.next HB0.out)
  clear hg
  go_enter Tryd.func21, Tryd.ntmps21
  go_wp2_with fail
  refine (heldNodes_any g N cap _ hN HF0.out).mono ?_
  rintro e w1 ⟨rfl, hb⟩
  have HB1 := hid (HB0.out.trans (hb.mono (by simp)))
  clear hb
  go_wp2
  go_ret
  exact ⟨rfl, HB1.out⟩
end Go.Proofs.YtpobfklbbkdglaaDoor
