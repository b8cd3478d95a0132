import Derived.Lib.SliceRun
import Derived.Maps.AppendAt
import Derived.Test.YtkngjbpbjjoneaaGreatDoorJ08
/-! The text of statements, functions and the whole: plain mathematics. Printed by gen_rst.py. -/
namespace Go.Proofs.YtkngjbpbjjoneaaGreatDoor.Q
def gapB (d : Nat) : List UInt8 := List.replicate (2 * d) 32
theorem gapB_len (d : Nat) : (gapB d).length = 2 * d := by simp [gapB]
/-- A block that stands in d blocks, from its bracket to its bracket. -/
def bodyOf (O : List (List Nat)) (sv : Nat → Nat → List UInt8) (d b : Nat) : List UInt8 := [123, 10] ++ ((O.getD b []).flatMap fun k => gapB (d + 1) ++ sv (d + 1) k ++ [10]) ++ gapB d ++ [125]
/-- A statement in d blocks, up to where its last line ends. -/
def sOf (nd : Nat → Nd) (O : List (List Nat)) (tv : Nat → List UInt8) (sv : Nat → Nat → List UInt8) (d j : Nat) : List UInt8 :=
  if (nd j).kind = 10 then [108, 101, 116, 32] ++ (nd j).text.data.toList ++ [32, 61, 32] ++ (O.getD j []).flatMap tv ++ [59]
  else if (nd j).kind = 11 then (nd j).text.data.toList ++ [32, 61, 32] ++ (O.getD j []).flatMap tv ++ [59]
  else if (nd j).kind = 12 then [105, 102, 32] ++ ((O.getD j []).take 1).flatMap tv ++ [32] ++ (((O.getD j []).drop 1).take 1).flatMap (bodyOf O sv d) ++ (((O.getD j []).drop 1).drop 1).flatMap fun k => [32, 101, 108, 115, 101, 32] ++ if (nd k).kind = 12 then sv d k else bodyOf O sv d k
  else if (nd j).kind = 13 then [119, 104, 105, 108, 101, 32] ++ ((O.getD j []).take 1).flatMap tv ++ [32] ++ ((O.getD j []).drop 1).flatMap (bodyOf O sv d)
  else if (nd j).kind = 14 then [98, 114, 101, 97, 107, 59]
  else if (nd j).kind = 15 then [99, 111, 110, 116, 105, 110, 117, 101, 59]
  else if (nd j).kind = 16 then [114, 101, 116, 117, 114, 110] ++ ((O.getD j []).flatMap fun k => [32] ++ tv k) ++ [59]
  else if (nd j).kind = 17 then [102, 97, 105, 108, 32] ++ (O.getD j []).flatMap tv ++ [59]
  else if (nd j).kind = 18 then [119, 114, 105, 116, 101, 32] ++ joinOf tv (O.getD j []) ++ [59]
  else if (nd j).kind = 19 then [115, 97, 121, 32] ++ (O.getD j []).flatMap tv ++ [59]
  else (O.getD j []).flatMap tv ++ [59]
theorem body_congr {O : List (List Nat)} (hO : Down O) {sv su : Nat → Nat → List UInt8} {d b j : Nat} (hb : b < j) (h : ∀ d k, k < j → sv d k = su d k) : bodyOf O sv d b = bodyOf O su d b := by
  unfold bodyOf
  rw [flat_congr (ks := O.getD b []) (f := fun k => gapB (d + 1) ++ sv (d + 1) k ++ [10]) (g := fun k => gapB (d + 1) ++ su (d + 1) k ++ [10]) fun k hk => by
    have := hO b k hk
    simp only [h (d + 1) k (by omega)]]
theorem sOf_congr {nd : Nat → Nd} {O : List (List Nat)} {tv : Nat → List UInt8} (hO : Down O) {sv su : Nat → Nat → List UInt8} {d j : Nat} (h : ∀ d k, k < j → sv d k = su d k) : sOf nd O tv sv d j = sOf nd O tv su d j := by
  have h1 : (((O.getD j []).drop 1).take 1).flatMap (bodyOf O sv d) = (((O.getD j []).drop 1).take 1).flatMap (bodyOf O su d) := flat_congr fun k hk => body_congr hO (hO j k (List.mem_of_mem_drop (List.mem_of_mem_take hk))) h
  have h2 : ((O.getD j []).drop 1).flatMap (bodyOf O sv d) = ((O.getD j []).drop 1).flatMap (bodyOf O su d) := flat_congr fun k hk => body_congr hO (hO j k (List.mem_of_mem_drop hk)) h
  have h3 : ((((O.getD j []).drop 1).drop 1).flatMap fun k => [32, 101, 108, 115, 101, 32] ++ if (nd k).kind = 12 then sv d k else bodyOf O sv d k) = (((O.getD j []).drop 1).drop 1).flatMap fun k => [32, 101, 108, 115, 101, 32] ++ if (nd k).kind = 12 then su d k else bodyOf O su d k := flat_congr fun k hk => by
    have hk' := hO j k (List.mem_of_mem_drop (List.mem_of_mem_drop hk))
    simp only [h d k hk', body_congr hO hk' h]
  unfold sOf
  rw [h1, h2, h3]
def sT (nd : Nat → Nd) (O : List (List Nat)) (tv : Nat → List UInt8) : Nat → Nat → Nat → List UInt8
  | 0, _, _ => []
  | f + 1, d, j => sOf nd O tv (sT nd O tv f) d j
def svS (nd : Nat → Nd) (O : List (List Nat)) (d j : Nat) : List UInt8 := sT nd O (tvE nd O) (j + 1) d j
theorem sT_mono {nd : Nat → Nd} {O : List (List Nat)} (hO : Down O) : ∀ j f d, j < f → sT nd O (tvE nd O) f d j = svS nd O d j := by
  intro j
  induction j using Nat.strongRecOn with
  | _ j ih =>
    intro f d hf
    obtain ⟨f, rfl⟩ : ∃ g, f = g + 1 := ⟨f - 1, by omega⟩
    unfold svS
    simp only [sT]
    exact sOf_congr hO fun d k hk => by rw [ih k hk f d (by omega), ih k hk j d hk]
theorem svS_eq {nd : Nat → Nd} {O : List (List Nat)} (hO : Down O) (d j : Nat) : svS nd O d j = sOf nd O (tvE nd O) (svS nd O) d j := by
  show sT nd O (tvE nd O) (j + 1) d j = _
  simp only [sT]
  exact sOf_congr hO fun d k hk => sT_mono hO k j d hk
def parOf (nd : Nat → Nd) (k : Nat) : List UInt8 := (nd k).text.data.toList ++ [32] ++ twB (nd k).ty
/-- A function, up to where its last line ends. -/
def fnT (nd : Nat → Nd) (O : List (List Nat)) (j : Nat) : List UInt8 :=
  [102, 110, 32] ++ (nd j).text.data.toList ++ [40] ++ joinOf (parOf nd) ((O.getD j []).take ((O.getD j []).length - 1)) ++ [41] ++ (if (nd j).ty = 0 then [] else [32, 45, 62, 32] ++ twB (nd j).ty) ++ [32] ++ ((O.getD j []).drop ((O.getD j []).length - 1)).flatMap (bodyOf O (svS nd O) 0)
/-- The whole, of functions ks. -/
def progT (nd : Nat → Nd) (O : List (List Nat)) (ks : List Nat) : List UInt8 := ks.flatMap fun k => fnT nd O k ++ [10]
/-! How long they are. -/
theorem flat_len (f : Nat → List UInt8) (z : Nat → Nat) (ks : List Nat) (h : ∀ k ∈ ks, (f k).length ≤ 60000 * z k) : (ks.flatMap f).length ≤ 60000 * (ks.map z).sum := by
  induction ks with
  | nil => simp
  | cons a r ih =>
    have h1 := h a (by simp)
    have h2 := ih (fun k hk => h k (by simp [hk]))
    simp only [List.flatMap_cons, List.length_append, List.map_cons, List.sum_cons]
    omega
theorem body_len (O : List (List Nat)) (sv : Nat → Nat → List UInt8) (z : Nat → Nat) (d b : Nat) (hd : d ≤ 12000) (hz : z b = 1 + ((O.getD b []).map z).sum) (h : ∀ k ∈ O.getD b [], (sv (d + 1) k).length + 24100 ≤ 60000 * z k) : (bodyOf O sv d b).length + 35000 ≤ 60000 * z b := by
  have h1 := flat_len (fun k => gapB (d + 1) ++ sv (d + 1) k ++ [10]) z (O.getD b []) fun k hk => by
    have := h k hk
    simp only [List.length_append, gapB_len, List.length_cons, List.length_nil]
    omega
  rw [hz]
  simp only [bodyOf, List.length_append, List.length_cons, List.length_nil, gapB_len]
  omega
theorem svS_len {nd : Nat → Nd} {N : Nat} {O : List (List Nat)} {s : List Nat} (hk : kidsF nd N = some (O, s)) (ht : ∀ j, j < N → (nd j).text.size ≤ 3000) : ∀ j, j < N → ∀ d, d + j ≤ 12001 → (svS nd O d j).length + 24100 ≤ 60000 * (szs O).getD j 0 := by
  have hO := kids_down hk
  intro j
  induction j using Nat.strongRecOn with
  | _ j ih =>
    intro hj d hd
    obtain ⟨z, hz⟩ : ∃ z : Nat → Nat, z = fun k => (szs O).getD k 0 := ⟨_, rfl⟩
    have hzj : ∀ k, k < N → z k = 1 + ((O.getD k []).map z).sum := fun k hk' => by rw [hz]; exact (szs_take hk k hk').1
    have hE : ∀ k ∈ O.getD j [], (tvE nd O k).length + 10 ≤ 9100 * z k := fun k hk' => by rw [hz]; exact tvE_len hk ht k (by have := hO j k hk'; omega)
    have hS : ∀ k, k < j → ∀ d, d + k ≤ 12001 → (svS nd O d k).length + 24100 ≤ 60000 * z k := fun k hk' d hd' => by rw [hz]; exact ih k hk' (by omega) d hd'
    have hB : ∀ k ∈ O.getD j [], (bodyOf O (svS nd O) d k).length + 35000 ≤ 60000 * z k := fun k hk' => by
      have hkj := hO j k hk'
      exact body_len O (svS nd O) z d k (by omega) (hzj k (by omega)) fun m hm => hS m (by have := hO k m hm; omega) (d + 1) (by have := hO k m hm; omega)
    have hx : (nd j).text.data.toList.length ≤ 3000 := by simpa using ht j hj
    have e1 := flat_len (tvE nd O) z (O.getD j []) fun k hk' => by have := hE k hk'; omega
    have e2 := flat_len (tvE nd O) z ((O.getD j []).take 1) fun k hk' => by have := hE k (List.mem_of_mem_take hk'); omega
    have e3 := flat_len (bodyOf O (svS nd O) d) z ((O.getD j []).drop 1) fun k hk' => by have := hB k (List.mem_of_mem_drop hk'); omega
    have e4 := flat_len (bodyOf O (svS nd O) d) z (((O.getD j []).drop 1).take 1) fun k hk' => by have := hB k (List.mem_of_mem_drop (List.mem_of_mem_take hk')); omega
    have e5 := flat_len (fun k => [32, 101, 108, 115, 101, 32] ++ if (nd k).kind = 12 then svS nd O d k else bodyOf O (svS nd O) d k) z (((O.getD j []).drop 1).drop 1) fun k hk' => by
      have hm := List.mem_of_mem_drop (List.mem_of_mem_drop hk')
      have h1 := hB k hm
      have h2 := hS k (hO j k hm) d (by have := hO j k hm; omega)
      simp only [List.length_append, List.length_cons, List.length_nil]
      split <;> omega
    have e6 := flat_len (fun k => [32] ++ tvE nd O k) z (O.getD j []) fun k hk' => by
      have := hE k hk'
      simp only [List.length_append, List.length_cons, List.length_nil]
      omega
    have e7 := join_len (tvE nd O) z (O.getD j []) hE
    have a1 : (((O.getD j []).take 1).map z).sum + (((O.getD j []).drop 1).map z).sum = ((O.getD j []).map z).sum := by rw [← List.sum_append, ← List.map_append, List.take_append_drop]
    have a2 : ((((O.getD j []).drop 1).take 1).map z).sum + ((((O.getD j []).drop 1).drop 1).map z).sum = (((O.getD j []).drop 1).map z).sum := by rw [← List.sum_append, ← List.map_append, List.take_append_drop]
    have hzz := hzj j hj
    have goal : (svS nd O d j).length + 24100 ≤ 60000 * z j := by
      rw [svS_eq hO, hzz]
      unfold sOf
      (repeat' split) <;> (try simp only [List.length_append, List.length_cons, List.length_nil]) <;> omega
    rw [hz] at goal
    exact goal
end Go.Proofs.YtkngjbpbjjoneaaGreatDoor.Q
/-! slices.Clone of a row of parts: cut out of clayvalue's IClone (gen_wtree.py). -/
namespace Go.Proofs.YtkngjbpbjjoneaaGreatDoor.Q
open Go.RowKit Go.Shelf
set_option maxRecDepth 20000
theorem info_part : (Tryz.prog.info? 55).map (fun i => (i.zero, i.size, i.bytes)) = some (some .nilIface, 1, 16) := by kernel_rfl
set_option maxHeartbeats 1000000 in
theorem pclone_nil (c : Nat) (w : World) :
    Calls Tryz.prog 34 #[.slice none 0 c] w fun e w' => ∃ v, e = .returned v ∧ w'.ownsRow w.heap.size 55 1 v 0 [] ∧ Below w.heap.size w w' := by
  have qT : ∀ (w : World) (a : Option Addr) (n c n' c' : Nat), (binOp .eql 76 (.slice a n c) (.slice none n' c')).run Tryz.prog w = .ok (.bool a.isNone) w := fun w a n c n' c' => Lib.run_eql_slice_nil w _ _ a n c n' c' Tryz.underlying76
  go_enter Tryz.func34, Tryz.ntmps34
  go_wp2
  go_ret
  exact ⟨_, rfl, World.ownsRow_nil _ _ _ _, Below.refl _ _⟩
set_option maxHeartbeats 1000000 in
theorem pclone_some (a : Addr) (k c : Nat) (xs : List Value) (w : World) (hk : xs.length = k) (hk1 : k ≤ 20000) (hc : ∀ i u, xs[i]? = some u → w.cell? (a.add i) = some u) (hab : 0 < k → a.block < w.heap.size) (h1 : ∀ u ∈ xs, u.oneCell' = true) :
    Calls Tryz.prog 34 #[.slice (some a) k c] w fun e w' => ∃ v, e = .returned v ∧ w'.ownsRow w.heap.size 55 1 v k xs ∧ Below w.heap.size w w' := by
  have qT : ∀ (w : World) (a : Option Addr) (n c n' c' : Nat), (binOp .eql 76 (.slice a n c) (.slice none n' c')).run Tryz.prog w = .ok (.bool a.isNone) w := fun w a n c n' c' => Lib.run_eql_slice_nil w _ _ a n c n' c' Tryz.underlying76
  obtain ⟨i0, hi, hz0, hz1, hz2⟩ := info_parts info_part
  have HHI := hid (And.intro hi (And.intro hz0 (And.intro hz1 hz2)))
  clear hi hz0 hz1 hz2
  have HC : Hid (∀ i u, xs[i]? = some u → (w.alloc (.cells #[] 55)).cell? (a.add i) = some u) := fun i u h => by
    have hl := (List.getElem?_eq_some_iff.1 h).1
    have hb : (a.add i).block < w.heap.size := by unfold Addr.add; split <;> exact hab (by omega)
    rw [((Below.refl w.heap.size w).alloc (Nat.le_refl _) (.cells #[] 55)).cell hb]
    exact hc i u h
  have H1 := hid h1
  have HK := hid hk
  have HB := hid ((Below.refl w.heap.size w).alloc (Nat.le_refl _) (.cells #[] 55))
  have OWN1 := hid (World.ownsRow_made (e := 55) (size := 1) w #[] 0 (Nat.le_refl _) (by unfold maxLen; omega) rfl)
  clear hc h1 hk hab
  go_enter Tryz.func34, Tryz.ntmps34
  go_wp2_with (at_builtin; refine wpList_append_own_at _ rfl (.tmp 5) (.tmp 6) 76 rfl w.heap.size 55 i0 .nilIface 1 16 Tryz.underlying76 HHI.out.1 HHI.out.2.1 HHI.out.2.2.1 HHI.out.2.2.2 rfl (by decide) _ _ _ rfl OWN1.out a k c xs rfl (by rw [HK.out, Nat.mul_one]) HC.out H1.out (by unfold maxLen; omega) (by omega) (by simp) ?_; intro v1 w1 o1 g1 nn1 b1; rw [Nat.zero_add, List.nil_append] at o1; have O1 := hid o1; have HB1 := hid (HB.out.grown g1 (by simp) (fun q e => by injection e with e; exact Nat.le_of_eq e)); clear o1 g1 nn1 b1)
  obtain ⟨av, cv, rfl⟩ : ∃ av cv, v1 = .slice av k cv := by
    obtain ⟨_, ⟨h2, h3⟩ | ⟨g, cap, cur, h2, _⟩⟩ := O1.out
    · exact ⟨none, 0, by rw [h2, h3]⟩
    · exact ⟨_, _, h2⟩
  go_wp2
  go_ret
  exact ⟨_, rfl, O1.out, HB1.out⟩
end Go.Proofs.YtkngjbpbjjoneaaGreatDoor.Q
/-! What asking a part for a type says. Printed by gen_wta.py. -/
namespace Go.Proofs.YtkngjbpbjjoneaaGreatDoor.Q
open Go.RowKit Go.Shelf
set_option maxRecDepth 20000
theorem ta_1 (v : Value) (W : World) : (Instr.typeAssert (.iface 139 v) 55 139 true).run Tryz.prog W = .ok (.tuple #[v, .bool true]) W := by kernel_rfl
theorem tz_1 (W : World) : (do pure (Value.tuple #[← zeroValue 139, .bool false]) : Sem Value).run Tryz.prog W = .ok (.tuple #[.agg #[.int .i64 0, .int .i64 0], .bool false]) W := by kernel_rfl
theorem tn_1 (u : TypeId) (v : Value) (W : World) (h : u ≠ 139) : (Instr.typeAssert (.iface u v) 55 139 true).run Tryz.prog W = .ok (.tuple #[.agg #[.int .i64 0, .int .i64 0], .bool false]) W := by
  have e : (Instr.typeAssert (.iface u v) 55 139 true).run Tryz.prog W = (if u = 139 then (pure (Value.tuple #[v, .bool true]) : Sem Value) else (do pure (Value.tuple #[← zeroValue 139, .bool false]))).run Tryz.prog W := by kernel_rfl
  rw [e, if_neg h]
  exact tz_1 W
theorem ta_2 (v : Value) (W : World) : (Instr.typeAssert (.iface 141 v) 55 141 true).run Tryz.prog W = .ok (.tuple #[v, .bool true]) W := by kernel_rfl
theorem tz_2 (W : World) : (do pure (Value.tuple #[← zeroValue 141, .bool false]) : Sem Value).run Tryz.prog W = .ok (.tuple #[.agg #[.string ⟨#[]⟩], .bool false]) W := by kernel_rfl
theorem tn_2 (u : TypeId) (v : Value) (W : World) (h : u ≠ 141) : (Instr.typeAssert (.iface u v) 55 141 true).run Tryz.prog W = .ok (.tuple #[.agg #[.string ⟨#[]⟩], .bool false]) W := by
  have e : (Instr.typeAssert (.iface u v) 55 141 true).run Tryz.prog W = (if u = 141 then (pure (Value.tuple #[v, .bool true]) : Sem Value) else (do pure (Value.tuple #[← zeroValue 141, .bool false]))).run Tryz.prog W := by kernel_rfl
  rw [e, if_neg h]
  exact tz_2 W
theorem ta_3 (v : Value) (W : World) : (Instr.typeAssert (.iface 143 v) 55 143 true).run Tryz.prog W = .ok (.tuple #[v, .bool true]) W := by kernel_rfl
theorem tz_3 (W : World) : (do pure (Value.tuple #[← zeroValue 143, .bool false]) : Sem Value).run Tryz.prog W = .ok (.tuple #[.agg #[.int .i64 0], .bool false]) W := by kernel_rfl
theorem tn_3 (u : TypeId) (v : Value) (W : World) (h : u ≠ 143) : (Instr.typeAssert (.iface u v) 55 143 true).run Tryz.prog W = .ok (.tuple #[.agg #[.int .i64 0], .bool false]) W := by
  have e : (Instr.typeAssert (.iface u v) 55 143 true).run Tryz.prog W = (if u = 143 then (pure (Value.tuple #[v, .bool true]) : Sem Value) else (do pure (Value.tuple #[← zeroValue 143, .bool false]))).run Tryz.prog W := by kernel_rfl
  rw [e, if_neg h]
  exact tz_3 W
theorem ta_4 (v : Value) (W : World) : (Instr.typeAssert (.iface 145 v) 55 145 true).run Tryz.prog W = .ok (.tuple #[v, .bool true]) W := by kernel_rfl
theorem tz_4 (W : World) : (do pure (Value.tuple #[← zeroValue 145, .bool false]) : Sem Value).run Tryz.prog W = .ok (.tuple #[.agg #[.string ⟨#[]⟩], .bool false]) W := by kernel_rfl
theorem tn_4 (u : TypeId) (v : Value) (W : World) (h : u ≠ 145) : (Instr.typeAssert (.iface u v) 55 145 true).run Tryz.prog W = .ok (.tuple #[.agg #[.string ⟨#[]⟩], .bool false]) W := by
  have e : (Instr.typeAssert (.iface u v) 55 145 true).run Tryz.prog W = (if u = 145 then (pure (Value.tuple #[v, .bool true]) : Sem Value) else (do pure (Value.tuple #[← zeroValue 145, .bool false]))).run Tryz.prog W := by kernel_rfl
  rw [e, if_neg h]
  exact tz_4 W
theorem ta_5 (v : Value) (W : World) : (Instr.typeAssert (.iface 147 v) 55 147 true).run Tryz.prog W = .ok (.tuple #[v, .bool true]) W := by kernel_rfl
theorem tz_5 (W : World) : (do pure (Value.tuple #[← zeroValue 147, .bool false]) : Sem Value).run Tryz.prog W = .ok (.tuple #[.agg #[.int .i64 0, .nilIface], .bool false]) W := by kernel_rfl
theorem tn_5 (u : TypeId) (v : Value) (W : World) (h : u ≠ 147) : (Instr.typeAssert (.iface u v) 55 147 true).run Tryz.prog W = .ok (.tuple #[.agg #[.int .i64 0, .nilIface], .bool false]) W := by
  have e : (Instr.typeAssert (.iface u v) 55 147 true).run Tryz.prog W = (if u = 147 then (pure (Value.tuple #[v, .bool true]) : Sem Value) else (do pure (Value.tuple #[← zeroValue 147, .bool false]))).run Tryz.prog W := by kernel_rfl
  rw [e, if_neg h]
  exact tz_5 W
theorem ta_6 (v : Value) (W : World) : (Instr.typeAssert (.iface 149 v) 55 149 true).run Tryz.prog W = .ok (.tuple #[v, .bool true]) W := by kernel_rfl
theorem tz_6 (W : World) : (do pure (Value.tuple #[← zeroValue 149, .bool false]) : Sem Value).run Tryz.prog W = .ok (.tuple #[.agg #[.int .i64 0, .nilIface, .nilIface], .bool false]) W := by kernel_rfl
theorem tn_6 (u : TypeId) (v : Value) (W : World) (h : u ≠ 149) : (Instr.typeAssert (.iface u v) 55 149 true).run Tryz.prog W = .ok (.tuple #[.agg #[.int .i64 0, .nilIface, .nilIface], .bool false]) W := by
  have e : (Instr.typeAssert (.iface u v) 55 149 true).run Tryz.prog W = (if u = 149 then (pure (Value.tuple #[v, .bool true]) : Sem Value) else (do pure (Value.tuple #[← zeroValue 149, .bool false]))).run Tryz.prog W := by kernel_rfl
  rw [e, if_neg h]
  exact tz_6 W
theorem ta_7 (v : Value) (W : World) : (Instr.typeAssert (.iface 151 v) 55 151 true).run Tryz.prog W = .ok (.tuple #[v, .bool true]) W := by kernel_rfl
theorem tz_7 (W : World) : (do pure (Value.tuple #[← zeroValue 151, .bool false]) : Sem Value).run Tryz.prog W = .ok (.tuple #[.agg #[.string ⟨#[]⟩, .slice none 0 0], .bool false]) W := by kernel_rfl
theorem tn_7 (u : TypeId) (v : Value) (W : World) (h : u ≠ 151) : (Instr.typeAssert (.iface u v) 55 151 true).run Tryz.prog W = .ok (.tuple #[.agg #[.string ⟨#[]⟩, .slice none 0 0], .bool false]) W := by
  have e : (Instr.typeAssert (.iface u v) 55 151 true).run Tryz.prog W = (if u = 151 then (pure (Value.tuple #[v, .bool true]) : Sem Value) else (do pure (Value.tuple #[← zeroValue 151, .bool false]))).run Tryz.prog W := by kernel_rfl
  rw [e, if_neg h]
  exact tz_7 W
theorem ta_8 (v : Value) (W : World) : (Instr.typeAssert (.iface 153 v) 55 153 true).run Tryz.prog W = .ok (.tuple #[v, .bool true]) W := by kernel_rfl
theorem tz_8 (W : World) : (do pure (Value.tuple #[← zeroValue 153, .bool false]) : Sem Value).run Tryz.prog W = .ok (.tuple #[.agg #[.int .i64 0, .slice none 0 0], .bool false]) W := by kernel_rfl
theorem tn_8 (u : TypeId) (v : Value) (W : World) (h : u ≠ 153) : (Instr.typeAssert (.iface u v) 55 153 true).run Tryz.prog W = .ok (.tuple #[.agg #[.int .i64 0, .slice none 0 0], .bool false]) W := by
  have e : (Instr.typeAssert (.iface u v) 55 153 true).run Tryz.prog W = (if u = 153 then (pure (Value.tuple #[v, .bool true]) : Sem Value) else (do pure (Value.tuple #[← zeroValue 153, .bool false]))).run Tryz.prog W := by kernel_rfl
  rw [e, if_neg h]
  exact tz_8 W
theorem ta_9 (v : Value) (W : World) : (Instr.typeAssert (.iface 155 v) 55 155 true).run Tryz.prog W = .ok (.tuple #[v, .bool true]) W := by kernel_rfl
theorem tz_9 (W : World) : (do pure (Value.tuple #[← zeroValue 155, .bool false]) : Sem Value).run Tryz.prog W = .ok (.tuple #[.agg #[.int .i64 0, .nilIface], .bool false]) W := by kernel_rfl
theorem tn_9 (u : TypeId) (v : Value) (W : World) (h : u ≠ 155) : (Instr.typeAssert (.iface u v) 55 155 true).run Tryz.prog W = .ok (.tuple #[.agg #[.int .i64 0, .nilIface], .bool false]) W := by
  have e : (Instr.typeAssert (.iface u v) 55 155 true).run Tryz.prog W = (if u = 155 then (pure (Value.tuple #[v, .bool true]) : Sem Value) else (do pure (Value.tuple #[← zeroValue 155, .bool false]))).run Tryz.prog W := by kernel_rfl
  rw [e, if_neg h]
  exact tz_9 W
theorem ta_10 (v : Value) (W : World) : (Instr.typeAssert (.iface 119 v) 55 119 true).run Tryz.prog W = .ok (.tuple #[v, .bool true]) W := by kernel_rfl
theorem tz_10 (W : World) : (do pure (Value.tuple #[← zeroValue 119, .bool false]) : Sem Value).run Tryz.prog W = .ok (.tuple #[.agg #[.string ⟨#[]⟩, .nilIface], .bool false]) W := by kernel_rfl
theorem tn_10 (u : TypeId) (v : Value) (W : World) (h : u ≠ 119) : (Instr.typeAssert (.iface u v) 55 119 true).run Tryz.prog W = .ok (.tuple #[.agg #[.string ⟨#[]⟩, .nilIface], .bool false]) W := by
  have e : (Instr.typeAssert (.iface u v) 55 119 true).run Tryz.prog W = (if u = 119 then (pure (Value.tuple #[v, .bool true]) : Sem Value) else (do pure (Value.tuple #[← zeroValue 119, .bool false]))).run Tryz.prog W := by kernel_rfl
  rw [e, if_neg h]
  exact tz_10 W
theorem ta_11 (v : Value) (W : World) : (Instr.typeAssert (.iface 121 v) 55 121 true).run Tryz.prog W = .ok (.tuple #[v, .bool true]) W := by kernel_rfl
theorem tz_11 (W : World) : (do pure (Value.tuple #[← zeroValue 121, .bool false]) : Sem Value).run Tryz.prog W = .ok (.tuple #[.agg #[.string ⟨#[]⟩, .nilIface], .bool false]) W := by kernel_rfl
theorem tn_11 (u : TypeId) (v : Value) (W : World) (h : u ≠ 121) : (Instr.typeAssert (.iface u v) 55 121 true).run Tryz.prog W = .ok (.tuple #[.agg #[.string ⟨#[]⟩, .nilIface], .bool false]) W := by
  have e : (Instr.typeAssert (.iface u v) 55 121 true).run Tryz.prog W = (if u = 121 then (pure (Value.tuple #[v, .bool true]) : Sem Value) else (do pure (Value.tuple #[← zeroValue 121, .bool false]))).run Tryz.prog W := by kernel_rfl
  rw [e, if_neg h]
  exact tz_11 W
theorem ta_12 (v : Value) (W : World) : (Instr.typeAssert (.iface 123 v) 55 123 true).run Tryz.prog W = .ok (.tuple #[v, .bool true]) W := by kernel_rfl
theorem tz_12 (W : World) : (do pure (Value.tuple #[← zeroValue 123, .bool false]) : Sem Value).run Tryz.prog W = .ok (.tuple #[.agg #[.nilIface, .nilIface, .nilIface], .bool false]) W := by kernel_rfl
theorem tn_12 (u : TypeId) (v : Value) (W : World) (h : u ≠ 123) : (Instr.typeAssert (.iface u v) 55 123 true).run Tryz.prog W = .ok (.tuple #[.agg #[.nilIface, .nilIface, .nilIface], .bool false]) W := by
  have e : (Instr.typeAssert (.iface u v) 55 123 true).run Tryz.prog W = (if u = 123 then (pure (Value.tuple #[v, .bool true]) : Sem Value) else (do pure (Value.tuple #[← zeroValue 123, .bool false]))).run Tryz.prog W := by kernel_rfl
  rw [e, if_neg h]
  exact tz_12 W
theorem ta_13 (v : Value) (W : World) : (Instr.typeAssert (.iface 125 v) 55 125 true).run Tryz.prog W = .ok (.tuple #[v, .bool true]) W := by kernel_rfl
theorem tz_13 (W : World) : (do pure (Value.tuple #[← zeroValue 125, .bool false]) : Sem Value).run Tryz.prog W = .ok (.tuple #[.agg #[.nilIface, .nilIface], .bool false]) W := by kernel_rfl
theorem tn_13 (u : TypeId) (v : Value) (W : World) (h : u ≠ 125) : (Instr.typeAssert (.iface u v) 55 125 true).run Tryz.prog W = .ok (.tuple #[.agg #[.nilIface, .nilIface], .bool false]) W := by
  have e : (Instr.typeAssert (.iface u v) 55 125 true).run Tryz.prog W = (if u = 125 then (pure (Value.tuple #[v, .bool true]) : Sem Value) else (do pure (Value.tuple #[← zeroValue 125, .bool false]))).run Tryz.prog W := by kernel_rfl
  rw [e, if_neg h]
  exact tz_13 W
theorem ta_14 (v : Value) (W : World) : (Instr.typeAssert (.iface 127 v) 55 127 true).run Tryz.prog W = .ok (.tuple #[v, .bool true]) W := by kernel_rfl
theorem tz_14 (W : World) : (do pure (Value.tuple #[← zeroValue 127, .bool false]) : Sem Value).run Tryz.prog W = .ok (.tuple #[.agg #[], .bool false]) W := by kernel_rfl
theorem tn_14 (u : TypeId) (v : Value) (W : World) (h : u ≠ 127) : (Instr.typeAssert (.iface u v) 55 127 true).run Tryz.prog W = .ok (.tuple #[.agg #[], .bool false]) W := by
  have e : (Instr.typeAssert (.iface u v) 55 127 true).run Tryz.prog W = (if u = 127 then (pure (Value.tuple #[v, .bool true]) : Sem Value) else (do pure (Value.tuple #[← zeroValue 127, .bool false]))).run Tryz.prog W := by kernel_rfl
  rw [e, if_neg h]
  exact tz_14 W
theorem ta_15 (v : Value) (W : World) : (Instr.typeAssert (.iface 128 v) 55 128 true).run Tryz.prog W = .ok (.tuple #[v, .bool true]) W := by kernel_rfl
theorem tz_15 (W : World) : (do pure (Value.tuple #[← zeroValue 128, .bool false]) : Sem Value).run Tryz.prog W = .ok (.tuple #[.agg #[], .bool false]) W := by kernel_rfl
theorem tn_15 (u : TypeId) (v : Value) (W : World) (h : u ≠ 128) : (Instr.typeAssert (.iface u v) 55 128 true).run Tryz.prog W = .ok (.tuple #[.agg #[], .bool false]) W := by
  have e : (Instr.typeAssert (.iface u v) 55 128 true).run Tryz.prog W = (if u = 128 then (pure (Value.tuple #[v, .bool true]) : Sem Value) else (do pure (Value.tuple #[← zeroValue 128, .bool false]))).run Tryz.prog W := by kernel_rfl
  rw [e, if_neg h]
  exact tz_15 W
theorem ta_16 (v : Value) (W : World) : (Instr.typeAssert (.iface 130 v) 55 130 true).run Tryz.prog W = .ok (.tuple #[v, .bool true]) W := by kernel_rfl
theorem tz_16 (W : World) : (do pure (Value.tuple #[← zeroValue 130, .bool false]) : Sem Value).run Tryz.prog W = .ok (.tuple #[.agg #[.nilIface], .bool false]) W := by kernel_rfl
theorem tn_16 (u : TypeId) (v : Value) (W : World) (h : u ≠ 130) : (Instr.typeAssert (.iface u v) 55 130 true).run Tryz.prog W = .ok (.tuple #[.agg #[.nilIface], .bool false]) W := by
  have e : (Instr.typeAssert (.iface u v) 55 130 true).run Tryz.prog W = (if u = 130 then (pure (Value.tuple #[v, .bool true]) : Sem Value) else (do pure (Value.tuple #[← zeroValue 130, .bool false]))).run Tryz.prog W := by kernel_rfl
  rw [e, if_neg h]
  exact tz_16 W
theorem ta_17 (v : Value) (W : World) : (Instr.typeAssert (.iface 132 v) 55 132 true).run Tryz.prog W = .ok (.tuple #[v, .bool true]) W := by kernel_rfl
theorem tz_17 (W : World) : (do pure (Value.tuple #[← zeroValue 132, .bool false]) : Sem Value).run Tryz.prog W = .ok (.tuple #[.agg #[.nilIface], .bool false]) W := by kernel_rfl
theorem tn_17 (u : TypeId) (v : Value) (W : World) (h : u ≠ 132) : (Instr.typeAssert (.iface u v) 55 132 true).run Tryz.prog W = .ok (.tuple #[.agg #[.nilIface], .bool false]) W := by
  have e : (Instr.typeAssert (.iface u v) 55 132 true).run Tryz.prog W = (if u = 132 then (pure (Value.tuple #[v, .bool true]) : Sem Value) else (do pure (Value.tuple #[← zeroValue 132, .bool false]))).run Tryz.prog W := by kernel_rfl
  rw [e, if_neg h]
  exact tz_17 W
theorem ta_18 (v : Value) (W : World) : (Instr.typeAssert (.iface 134 v) 55 134 true).run Tryz.prog W = .ok (.tuple #[v, .bool true]) W := by kernel_rfl
theorem tz_18 (W : World) : (do pure (Value.tuple #[← zeroValue 134, .bool false]) : Sem Value).run Tryz.prog W = .ok (.tuple #[.agg #[.nilIface, .nilIface], .bool false]) W := by kernel_rfl
theorem tn_18 (u : TypeId) (v : Value) (W : World) (h : u ≠ 134) : (Instr.typeAssert (.iface u v) 55 134 true).run Tryz.prog W = .ok (.tuple #[.agg #[.nilIface, .nilIface], .bool false]) W := by
  have e : (Instr.typeAssert (.iface u v) 55 134 true).run Tryz.prog W = (if u = 134 then (pure (Value.tuple #[v, .bool true]) : Sem Value) else (do pure (Value.tuple #[← zeroValue 134, .bool false]))).run Tryz.prog W := by kernel_rfl
  rw [e, if_neg h]
  exact tz_18 W
theorem ta_19 (v : Value) (W : World) : (Instr.typeAssert (.iface 135 v) 55 135 true).run Tryz.prog W = .ok (.tuple #[v, .bool true]) W := by kernel_rfl
theorem tz_19 (W : World) : (do pure (Value.tuple #[← zeroValue 135, .bool false]) : Sem Value).run Tryz.prog W = .ok (.tuple #[.agg #[.nilIface], .bool false]) W := by kernel_rfl
theorem tn_19 (u : TypeId) (v : Value) (W : World) (h : u ≠ 135) : (Instr.typeAssert (.iface u v) 55 135 true).run Tryz.prog W = .ok (.tuple #[.agg #[.nilIface], .bool false]) W := by
  have e : (Instr.typeAssert (.iface u v) 55 135 true).run Tryz.prog W = (if u = 135 then (pure (Value.tuple #[v, .bool true]) : Sem Value) else (do pure (Value.tuple #[← zeroValue 135, .bool false]))).run Tryz.prog W := by kernel_rfl
  rw [e, if_neg h]
  exact tz_19 W
theorem ta_20 (v : Value) (W : World) : (Instr.typeAssert (.iface 137 v) 55 137 true).run Tryz.prog W = .ok (.tuple #[v, .bool true]) W := by kernel_rfl
theorem tz_20 (W : World) : (do pure (Value.tuple #[← zeroValue 137, .bool false]) : Sem Value).run Tryz.prog W = .ok (.tuple #[.agg #[.nilIface], .bool false]) W := by kernel_rfl
theorem tn_20 (u : TypeId) (v : Value) (W : World) (h : u ≠ 137) : (Instr.typeAssert (.iface u v) 55 137 true).run Tryz.prog W = .ok (.tuple #[.agg #[.nilIface], .bool false]) W := by
  have e : (Instr.typeAssert (.iface u v) 55 137 true).run Tryz.prog W = (if u = 137 then (pure (Value.tuple #[v, .bool true]) : Sem Value) else (do pure (Value.tuple #[← zeroValue 137, .bool false]))).run Tryz.prog W := by kernel_rfl
  rw [e, if_neg h]
  exact tz_20 W
theorem ta_21 (v : Value) (W : World) : (Instr.typeAssert (.iface 89 v) 55 89 true).run Tryz.prog W = .ok (.tuple #[v, .bool true]) W := by kernel_rfl
theorem tz_21 (W : World) : (do pure (Value.tuple #[← zeroValue 89, .bool false]) : Sem Value).run Tryz.prog W = .ok (.tuple #[.agg #[.slice none 0 0], .bool false]) W := by kernel_rfl
theorem tn_21 (u : TypeId) (v : Value) (W : World) (h : u ≠ 89) : (Instr.typeAssert (.iface u v) 55 89 true).run Tryz.prog W = .ok (.tuple #[.agg #[.slice none 0 0], .bool false]) W := by
  have e : (Instr.typeAssert (.iface u v) 55 89 true).run Tryz.prog W = (if u = 89 then (pure (Value.tuple #[v, .bool true]) : Sem Value) else (do pure (Value.tuple #[← zeroValue 89, .bool false]))).run Tryz.prog W := by kernel_rfl
  rw [e, if_neg h]
  exact tz_21 W
theorem ta_22 (v : Value) (W : World) : (Instr.typeAssert (.iface 87 v) 55 87 true).run Tryz.prog W = .ok (.tuple #[v, .bool true]) W := by kernel_rfl
theorem tz_22 (W : World) : (do pure (Value.tuple #[← zeroValue 87, .bool false]) : Sem Value).run Tryz.prog W = .ok (.tuple #[.agg #[.string ⟨#[]⟩, .int .i64 0], .bool false]) W := by kernel_rfl
theorem tn_22 (u : TypeId) (v : Value) (W : World) (h : u ≠ 87) : (Instr.typeAssert (.iface u v) 55 87 true).run Tryz.prog W = .ok (.tuple #[.agg #[.string ⟨#[]⟩, .int .i64 0], .bool false]) W := by
  have e : (Instr.typeAssert (.iface u v) 55 87 true).run Tryz.prog W = (if u = 87 then (pure (Value.tuple #[v, .bool true]) : Sem Value) else (do pure (Value.tuple #[← zeroValue 87, .bool false]))).run Tryz.prog W := by kernel_rfl
  rw [e, if_neg h]
  exact tz_22 W
theorem ta_23 (v : Value) (W : World) : (Instr.typeAssert (.iface 81 v) 55 81 true).run Tryz.prog W = .ok (.tuple #[v, .bool true]) W := by kernel_rfl
theorem tz_23 (W : World) : (do pure (Value.tuple #[← zeroValue 81, .bool false]) : Sem Value).run Tryz.prog W = .ok (.tuple #[.agg #[.string ⟨#[]⟩, .int .i64 0, .slice none 0 0, .nilIface], .bool false]) W := by kernel_rfl
theorem tn_23 (u : TypeId) (v : Value) (W : World) (h : u ≠ 81) : (Instr.typeAssert (.iface u v) 55 81 true).run Tryz.prog W = .ok (.tuple #[.agg #[.string ⟨#[]⟩, .int .i64 0, .slice none 0 0, .nilIface], .bool false]) W := by
  have e : (Instr.typeAssert (.iface u v) 55 81 true).run Tryz.prog W = (if u = 81 then (pure (Value.tuple #[v, .bool true]) : Sem Value) else (do pure (Value.tuple #[← zeroValue 81, .bool false]))).run Tryz.prog W := by kernel_rfl
  rw [e, if_neg h]
  exact tz_23 W
theorem ta_24 (v : Value) (W : World) : (Instr.typeAssert (.iface 78 v) 55 78 true).run Tryz.prog W = .ok (.tuple #[v, .bool true]) W := by kernel_rfl
theorem tz_24 (W : World) : (do pure (Value.tuple #[← zeroValue 78, .bool false]) : Sem Value).run Tryz.prog W = .ok (.tuple #[.agg #[.slice none 0 0], .bool false]) W := by kernel_rfl
theorem tn_24 (u : TypeId) (v : Value) (W : World) (h : u ≠ 78) : (Instr.typeAssert (.iface u v) 55 78 true).run Tryz.prog W = .ok (.tuple #[.agg #[.slice none 0 0], .bool false]) W := by
  have e : (Instr.typeAssert (.iface u v) 55 78 true).run Tryz.prog W = (if u = 78 then (pure (Value.tuple #[v, .bool true]) : Sem Value) else (do pure (Value.tuple #[← zeroValue 78, .bool false]))).run Tryz.prog W := by kernel_rfl
  rw [e, if_neg h]
  exact tz_24 W
end Go.Proofs.YtkngjbpbjjoneaaGreatDoor.Q
