import Derived.Test.YtkngjbpbjjoneaaGreatDoorCards
import Derived.Test.YtkngjbpbjjoneaaGreatDoorTie
import Derived.Lib.AppendIntMem
import Derived.Stop.LaidErr
import Derived.WalkKit
import Derived.ProofKit
import Derived.OpenShut
import Derived.Deep.DeepHandedRow
import Derived.Lib.LaidTab
import Derived.OpenVars
import Derived.Test.YtkngjbpbjjoneaaGreatDoorJ50
import Derived.Test.YtkngjbpbjjoneaaGreatDoorJ11
namespace Go.Proofs.YtkngjbpbjjoneaaGreatDoor.Q
open Go.ChangeShapes Go.WideShapes Go.ChangeAt Go.RowKit
theorem own : ownKnob Tryz.prog.godebug = none := by kernel_rfl
theorem laidOut : laidOutB Tryz.prog = true := by kernel_rfl
theorem readT : Tryz.prog.readableRec 24 = true := by kernel_rfl
theorem gMB : Tryz.prog.globalNamed "loop.example/kilnyard/impl.millBuilts" = some 1 := by kernel_rfl
theorem gMBType : (Tryz.prog.globals[1]?).map (·.type) = some 108 := by kernel_rfl
theorem cellsMC : Tryz.prog.cellsOf 107 = 2 := by kernel_rfl
theorem varsOk : varsRowed Tryz.prog Rows.fnExactMillPrintSpec.vars = true := by kernel_rfl
theorem cellsMO : Tryz.prog.cellsOf 174 = 2 := by kernel_rfl
theorem gTW : Tryz.prog.globalNamed "loop.example/kilnyard/impl.millTypeWords" = some 0 := by kernel_rfl
theorem gTWType : (Tryz.prog.globals[0]?).map (·.type) = some 83 := by kernel_rfl
theorem gUM : Tryz.prog.globalNamed "loop.example/kilnyard/impl.millUnMarks" = some 2 := by kernel_rfl
theorem gUMType : (Tryz.prog.globals[2]?).map (·.type) = some 172 := by kernel_rfl
theorem gOM : Tryz.prog.globalNamed "loop.example/kilnyard/impl.millOps" = some 3 := by kernel_rfl
theorem gOMType : (Tryz.prog.globals[3]?).map (·.type) = some 175 := by kernel_rfl
theorem gP10 : Tryz.prog.globalNamed "internal/strconv.uint64pow10" = some 5 := by kernel_rfl
theorem gP10Type : (Tryz.prog.globals[5]?).map (·.type) = some 199 := by kernel_rfl
theorem gD6 : Tryz.prog.globalNamed "math/bits.deBruijn64tab" = some 7 := by kernel_rfl
/-- An array of strings that reads as these holds just these. -/
theorem cells_of_strs {H : Type} {enc : TypeId × Value → H} {P : Program} {w : World} {base : Nat} {sp : Nat → Bool} {held : Bool} {fuel : Nat} {t e : TypeId} {n : Nat} {cs : List Value} {zs : List (List UInt8)} {p : List MemPlace}
    (ht : P.underlying t = some (.array n e)) (he : P.underlying e = some .string) (hce : P.cellsOf e = 1) (hct : P.cellsOf t = n)
    (h : DataW.trod enc P w base sp held fuel t cs = some (.agg (zs.map fun z => .lit (.string z)), p)) : cs = zs.map fun z => Value.string ⟨z.toArray⟩ := by
  cases fuel with
  | zero => simp [DataW.trod] at h
  | succ fuel =>
    simp only [DataW.trod, ht, hce, hct, Nat.mul_one] at h
    split at h
    · rename_i hl
      obtain ⟨xs, hm, hx⟩ := Option.map_eq_some_iff.1 h
      have hxs : xs.map (·.1) = zs.map fun z => (DataW.lit (.string z) : DataW H) := by
        have := congrArg Prod.fst hx
        simpa using this
      have hxl : xs.length = n := by simpa using Lib.mapM_length hm
      have hzl : zs.length = n := by
        have := congrArg List.length hxs
        simp at this
        omega
      apply List.ext_getElem?
      intro i
      by_cases hi : i < n
      · obtain ⟨b, hb, hf⟩ := Lib.mapM_at hm i i (by simp [hi])
        obtain ⟨z, hc, rfl, _⟩ := DataW.trod_string he hf
        have h1 : cs[i]? = some (.string z) := by
          have := congrArg (·[0]?) hc
          simpa [List.getElem?_take, List.getElem?_drop] using this
        have h2 : (xs.map (·.1))[i]? = some (DataW.lit (.string z.data.toList) : DataW H) := by simp [hb]
        rw [hxs] at h2
        simp only [List.getElem?_map, Option.map_eq_some_iff, DataW.lit.injEq, Lit.string.injEq] at h2
        obtain ⟨z', hz', e⟩ := h2
        simp [h1, hz', e]
      · rw [List.getElem?_eq_none (by omega), List.getElem?_eq_none (by simp; omega)]
    · cases h
/-- An array of texts with numbers that reads as these has just these numbers. -/
theorem cell_of_pairs {H : Type} {enc : TypeId × Value → H} {P : Program} {w : World} {base : Nat} {sp : Nat → Bool} {held : Bool} {fuel : Nat} {t e : TypeId} {n : Nat} {cs : List Value} {zs : List (List UInt8 × Int)} {p : List MemPlace} {fs : Array Field} {f : Field}
    (ht : P.underlying t = some (.array n e)) (he : P.underlying e = some (.struct fs)) (hfs : fs.size = 2) (hf1 : fs[1]? = some f) (hfo : f.offset = 1) (hfi : P.underlying f.type = some (.int .i64)) (hcf : P.cellsOf f.type = 1) (hce : P.cellsOf e = 2)
    (h : DataW.trod enc P w base sp held fuel t cs = some (.agg (zs.map fun z => .agg [.lit (.string z.1), .lit (.int .i64 z.2)]), p)) : ∀ (i : Nat) (z : List UInt8 × Int), zs[i]? = some z → cs[i * 2 + 1]? = some (.int .i64 z.2) := by
  obtain ⟨xs, m, rfl, hx, _, hl, hel⟩ := DataW.trod_array ht h
  have hxs : xs.map (·.1) = zs.map fun z => (DataW.agg [.lit (.string z.1), .lit (.int .i64 z.2)] : DataW H) := by
    have := congrArg Prod.fst hx
    simpa using this.symm
  have hzl : zs.length = n := by
    have := congrArg List.length hxs
    simp at this
    omega
  intro i z hz
  have hi : i < n := by
    have := (List.getElem?_eq_some_iff.1 hz).1
    omega
  have e1 := hel i hi
  rw [hce] at e1
  obtain ⟨b, hb⟩ : ∃ b, xs[i]? = some b := ⟨xs[i]'(by omega), List.getElem?_eq_getElem (by omega)⟩
  rw [hb] at e1
  have hb1 : b.1 = DataW.agg [.lit (.string z.1), .lit (.int .i64 z.2)] := by
    have := congrArg (·[i]?) hxs
    simpa [hb, hz] using this
  obtain ⟨ys, m2, _, hbx, _, hyl, hyf⟩ := DataW.trod_struct he e1
  have g1 := hyf 1 f hf1
  rw [hfo, hcf] at g1
  obtain ⟨y, hy⟩ : ∃ y, ys[1]? = some y := ⟨ys[1]'(by omega), List.getElem?_eq_getElem (by omega)⟩
  rw [hy] at g1
  obtain ⟨v, hv, hyv, _⟩ := DataW.trod_int hfi g1
  rw [hbx] at hb1
  simp only [DataW.agg.injEq] at hb1
  have hv2 : v = z.2 := by
    have := congrArg (·[1]?) hb1
    simpa [hy, hyv] using this
  subst hv2
  have := congrArg (·[0]?) hv
  simpa [List.getElem?_take, List.getElem?_drop] using this
/-- An array of texts with numbers that reads as these has just these texts. -/
theorem str_of_pairs {H : Type} {enc : TypeId × Value → H} {P : Program} {w : World} {base : Nat} {sp : Nat → Bool} {held : Bool} {fuel : Nat} {t e : TypeId} {n : Nat} {cs : List Value} {zs : List (List UInt8 × Int)} {p : List MemPlace} {fs : Array Field} {f : Field}
    (ht : P.underlying t = some (.array n e)) (he : P.underlying e = some (.struct fs)) (hfs : fs.size = 2) (hf1 : fs[0]? = some f) (hfo : f.offset = 0) (hfi : P.underlying f.type = some .string) (hcf : P.cellsOf f.type = 1) (hce : P.cellsOf e = 2)
    (h : DataW.trod enc P w base sp held fuel t cs = some (.agg (zs.map fun z => .agg [.lit (.string z.1), .lit (.int .i64 z.2)]), p)) : ∀ (i : Nat) (z : List UInt8 × Int), zs[i]? = some z → cs[i * 2]? = some (.string ⟨z.1.toArray⟩) := by
  obtain ⟨xs, m, rfl, hx, _, hl, hel⟩ := DataW.trod_array ht h
  have hxs : xs.map (·.1) = zs.map fun z => (DataW.agg [.lit (.string z.1), .lit (.int .i64 z.2)] : DataW H) := by
    have := congrArg Prod.fst hx
    simpa using this.symm
  have hzl : zs.length = n := by
    have := congrArg List.length hxs
    simp at this
    omega
  intro i z hz
  have hi : i < n := by
    have := (List.getElem?_eq_some_iff.1 hz).1
    omega
  have e1 := hel i hi
  rw [hce] at e1
  obtain ⟨b, hb⟩ : ∃ b, xs[i]? = some b := ⟨xs[i]'(by omega), List.getElem?_eq_getElem (by omega)⟩
  rw [hb] at e1
  have hb1 : b.1 = DataW.agg [.lit (.string z.1), .lit (.int .i64 z.2)] := by
    have := congrArg (·[i]?) hxs
    simpa [hb, hz] using this
  obtain ⟨ys, m2, _, hbx, _, hyl, hyf⟩ := DataW.trod_struct he e1
  have g1 := hyf 0 f hf1
  rw [hfo, hcf] at g1
  obtain ⟨y, hy⟩ : ∃ y, ys[0]? = some y := ⟨ys[0]'(by omega), List.getElem?_eq_getElem (by omega)⟩
  rw [hy] at g1
  obtain ⟨v, hv, hyv, _⟩ := DataW.trod_string hfi g1
  rw [hbx] at hb1
  simp only [DataW.agg.injEq] at hb1
  have hv2 : v.data.toList = z.1 := by
    have := congrArg (·[0]?) hb1
    simpa [hy, hyv] using this
  have := congrArg (·[0]?) hv
  rw [← hv2]
  simpa [List.getElem?_take, List.getElem?_drop] using this
def pairs : List (List UInt8 × Int) := [([], 0), ([114, 101, 97, 100], 1), ([104, 97, 115], 1), ([108, 105, 115, 116], 1), ([116, 111, 111, 108], 2), ([97, 114, 103], 0), ([108, 101, 110], 1), ([97, 116], 2), ([99, 117, 116], 3), ([102, 105, 110, 100], 2), ([99, 104, 114], 1), ([100, 101, 99], 1), ([110, 117, 109], 1)]
def opairs : List (List UInt8 × Int) := [ ([], 0), ([124, 124], 1), ([38, 38], 2), ([61, 61], 3), ([33, 61], 3), ([60], 3), ([60, 61], 3), ([62], 3), ([62, 61], 3), ([43], 4), ([45], 4), ([124], 4), ([94], 4), ([42], 5), ([47], 5), ([37], 5), ([38], 5), ([60, 60], 5), ([62, 62], 5) ]
def uns : List (List UInt8) := [ [], [45], [33], [126] ]
def tyws : List (List UInt8) := [ [], [98, 111, 111, 108], [116, 101, 120, 116], [117, 56], [117, 49, 54], [117, 51, 50], [117, 54, 52], [105, 56], [105, 49, 54], [105, 51, 50], [105, 54, 52] ]
theorem cell_at {W : World} {g : Nat} {cs : Array Value} {t : TypeId} {fr : Nat × Nat} (h : W.heap[g]? = some (.cells cs t fr)) (i : Nat) : W.cell? ⟨g, i, none⟩ = cs[i]? := by
  unfold World.cell?
  rw [h]; rfl
theorem envB_of {W : World} (h : laidMet Tryz.prog (("loop.example/kilnyard/impl.millBuilts", Rows.laid_loop_example_kilnyard_impl_millBuilts) :: [("loop.example/kilnyard/impl.millTypeWords", Rows.laid_loop_example_kilnyard_impl_millTypeWords)]) W) : EnvB W ∧ ∀ t : Nat, 1 ≤ t → t ≤ 12 → W.cell? ⟨1, t * 2, none⟩ = some (.string ⟨(bwB t).toArray⟩) := by
  obtain ⟨ps, ⟨g', t', cs, fuel, p, q, hg', ht', hvar, hd, _, _⟩, _⟩ := h
  obtain rfl := Option.some.inj (gMB.symm.trans hg')
  obtain rfl := Option.some.inj (gMBType.symm.trans ht')
  have hc := cell_of_pairs (zs := pairs) Tryz.underlying108 Tryz.underlying107 rfl rfl rfl Tryz.underlying3 cellsInt cellsMC hd
  have hc2 := str_of_pairs (zs := pairs) Tryz.underlying108 Tryz.underlying107 rfl rfl rfl Tryz.underlying9 cellsStr cellsMC hd
  unfold World.var? at hvar
  rw [gMB] at hvar
  simp only [Option.bind_some] at hvar
  split at hvar
  · rename_i cs' t fr hh
    cases hvar
    have hk : ∀ (i : Nat) (z : List UInt8 × Int), pairs[i]? = some z → W.cell? ⟨1, i * 2 + 1, none⟩ = some (.int .i64 z.2) := fun i z hz => by
      rw [cell_at hh]
      have := hc i z hz
      simpa using this
    have hs : ∀ (i : Nat) (z : List UInt8 × Int), pairs[i]? = some z → W.cell? ⟨1, i * 2, none⟩ = some (.string ⟨z.1.toArray⟩) := fun i z hz => by
      rw [cell_at hh]
      have := hc2 i z hz
      simpa using this
    refine ⟨⟨(Array.getElem?_eq_some_iff.1 hh).1, hk 1 _ rfl, hk 2 _ rfl, hk 3 _ rfl, hk 4 _ rfl, hk 5 _ rfl, hk 6 _ rfl, hk 7 _ rfl, hk 8 _ rfl, hk 9 _ rfl, hk 10 _ rfl, hk 11 _ rfl, hk 12 _ rfl⟩, fun t h1 h2 => ?_⟩
    obtain rfl | rfl | rfl | rfl | rfl | rfl | rfl | rfl | rfl | rfl | rfl | rfl : t = 1 ∨ t = 2 ∨ t = 3 ∨ t = 4 ∨ t = 5 ∨ t = 6 ∨ t = 7 ∨ t = 8 ∨ t = 9 ∨ t = 10 ∨ t = 11 ∨ t = 12 := by omega
    · exact hs 1 _ rfl
    · exact hs 2 _ rfl
    · exact hs 3 _ rfl
    · exact hs 4 _ rfl
    · exact hs 5 _ rfl
    · exact hs 6 _ rfl
    · exact hs 7 _ rfl
    · exact hs 8 _ rfl
    · exact hs 9 _ rfl
    · exact hs 10 _ rfl
    · exact hs 11 _ rfl
    · exact hs 12 _ rfl
  · cases hvar
theorem tab8 {w : World} (h : Lib.TabIs Tryz.prog w "internal/strconv.uint64pow10" .u64 Lib.pow10Tab) : Lib.TabBelow Tryz.prog 8 w "internal/strconv.uint64pow10" .u64 Lib.pow10Tab := fun w' hb => by
  unfold Lib.TabIs World.var? at *
  simp only [gP10, Option.bind_some] at h ⊢
  rw [hb.block 5 (by decide)]
  exact h
theorem envP_of {W : World} (h : laidMet Tryz.prog Rows.fnExactMillPrintRow.laid W) : EnvP W := by
  have h1 := h.tail
  have h2 := h1.tail
  have h3 := h2.tail
  have h4 := h3.tail
  have h5 := h4.tail
  have h6 := h5.tail
  refine ⟨?_, ?_, (envB_of h5).2, ?_, ?_, tab8 (Lib.tabIs_of_head gP10 gP10Type Tryz.underlying199 Tryz.underlying98 (by kernel_rfl) (by kernel_rfl) h2)⟩
  · obtain ⟨ps, ⟨g', t', cs, fuel, p, q, hg', ht', hvar, hd, _, _⟩, _⟩ := h1
    unfold World.var? at hvar
    rw [gD6] at hvar
    simp only [Option.bind_some] at hvar
    split at hvar
    · rename_i hh
      have := (Array.getElem?_eq_some_iff.1 hh).1
      omega
    · cases hvar
  · intro t h1' h2'
    obtain ⟨ps, ⟨g', t', cs, fuel, p, q, hg', ht', hvar, hd, _, _⟩, _⟩ := h6
    obtain rfl := Option.some.inj (gTW.symm.trans hg')
    obtain rfl := Option.some.inj (gTWType.symm.trans ht')
    have e := cells_of_strs (zs := tyws) Tryz.underlying83 Tryz.underlying9 cellsStr (by kernel_rfl) hd
    unfold World.var? at hvar
    rw [gTW] at hvar
    simp only [Option.bind_some] at hvar
    split at hvar
    · rename_i cs' ty fr hh
      cases hvar
      have hk : W.cell? ⟨0, t, none⟩ = (tyws.map fun z => Value.string ⟨z.toArray⟩)[t]? := by rw [cell_at hh, ← e]; simp
      rw [hk]
      obtain rfl | rfl | rfl | rfl | rfl | rfl | rfl | rfl | rfl | rfl : t = 1 ∨ t = 2 ∨ t = 3 ∨ t = 4 ∨ t = 5 ∨ t = 6 ∨ t = 7 ∨ t = 8 ∨ t = 9 ∨ t = 10 := by omega
      all_goals rfl
    · cases hvar
  · intro t h1' h2'
    obtain ⟨ps, ⟨g', t', cs, fuel, p, q, hg', ht', hvar, hd, _, _⟩, _⟩ := h4
    obtain rfl := Option.some.inj (gUM.symm.trans hg')
    obtain rfl := Option.some.inj (gUMType.symm.trans ht')
    have e := cells_of_strs (zs := uns) Tryz.underlying172 Tryz.underlying9 cellsStr (by kernel_rfl) hd
    unfold World.var? at hvar
    rw [gUM] at hvar
    simp only [Option.bind_some] at hvar
    split at hvar
    · rename_i cs' ty fr hh
      cases hvar
      have hk : W.cell? ⟨2, t, none⟩ = (uns.map fun z => Value.string ⟨z.toArray⟩)[t]? := by rw [cell_at hh, ← e]; simp
      rw [hk]
      obtain rfl | rfl | rfl : t = 1 ∨ t = 2 ∨ t = 3 := by omega
      all_goals rfl
    · cases hvar
  · intro t h1' h2'
    obtain ⟨ps, ⟨g', t', cs, fuel, p, q, hg', ht', hvar, hd, _, _⟩, _⟩ := h3
    obtain rfl := Option.some.inj (gOM.symm.trans hg')
    obtain rfl := Option.some.inj (gOMType.symm.trans ht')
    have hc2 := str_of_pairs (zs := opairs) Tryz.underlying175 Tryz.underlying174 rfl rfl rfl Tryz.underlying9 cellsStr cellsMO hd
    unfold World.var? at hvar
    rw [gOM] at hvar
    simp only [Option.bind_some] at hvar
    split at hvar
    · rename_i cs' ty fr hh
      cases hvar
      have hs : ∀ (i : Nat) (z : List UInt8 × Int), opairs[i]? = some z → W.cell? ⟨3, i * 2, none⟩ = some (.string ⟨z.1.toArray⟩) := fun i z hz => by
        rw [cell_at hh]
        have := hc2 i z hz
        simpa using this
      obtain rfl | rfl | rfl | rfl | rfl | rfl | rfl | rfl | rfl | rfl | rfl | rfl | rfl | rfl | rfl | rfl | rfl | rfl : t = 1 ∨ t = 2 ∨ t = 3 ∨ t = 4 ∨ t = 5 ∨ t = 6 ∨ t = 7 ∨ t = 8 ∨ t = 9 ∨ t = 10 ∨ t = 11 ∨ t = 12 ∨ t = 13 ∨ t = 14 ∨ t = 15 ∨ t = 16 ∨ t = 17 ∨ t = 18 := by omega
      · exact hs 1 _ rfl
      · exact hs 2 _ rfl
      · exact hs 3 _ rfl
      · exact hs 4 _ rfl
      · exact hs 5 _ rfl
      · exact hs 6 _ rfl
      · exact hs 7 _ rfl
      · exact hs 8 _ rfl
      · exact hs 9 _ rfl
      · exact hs 10 _ rfl
      · exact hs 11 _ rfl
      · exact hs 12 _ rfl
      · exact hs 13 _ rfl
      · exact hs 14 _ rfl
      · exact hs 15 _ rfl
      · exact hs 16 _ rfl
      · exact hs 17 _ rfl
      · exact hs 18 _ rfl
    · cases hvar
theorem env_of_laid {W : World} (h : laidMetH Tryz.prog Rows.fnExactMillPrintRow.laid W) : EnvB W ∧ EnvP W := by
  have h1 : laidMet Tryz.prog Rows.fnExactMillPrintRow.laid W := h
  exact ⟨(envB_of h1.tail.tail.tail.tail.tail).1, envP_of h1⟩
theorem trodVars_len {H : Type} {enc : TypeId × Value → H} {P : Program} {w : World} {spare : Nat → Bool} : ∀ (ns : List String) (gs : List (DataW H)) (ps : List MemPlace), DataW.TrodVars enc P w spare ns gs ps → gs.length = ns.length := by
  intro ns
  induction ns with
  | nil => intro gs ps h; obtain ⟨rfl, _⟩ := trodVars_none h; rfl
  | cons n ns ih =>
    intro gs ps h
    cases gs with
    | nil => simp [DataW.TrodVars] at h
    | cons d ds =>
      obtain ⟨g, t, cs, fuel, p, q, h1, h2, h3, h4, hs, e⟩ := h
      simp [ih ds q hs]
def putCells (cs : Array Value) : Obj → Obj
  | .cells _ t frozen => .cells cs t frozen
  | o => o
def tabD3 : Array Value := #[.int .u8 0, .int .u8 1, .int .u8 28, .int .u8 2, .int .u8 29, .int .u8 14, .int .u8 24, .int .u8 3, .int .u8 30, .int .u8 22, .int .u8 20, .int .u8 15, .int .u8 25, .int .u8 17, .int .u8 4, .int .u8 8, .int .u8 31, .int .u8 27, .int .u8 13, .int .u8 23, .int .u8 21, .int .u8 19, .int .u8 16, .int .u8 7, .int .u8 26, .int .u8 12, .int .u8 18, .int .u8 6, .int .u8 11, .int .u8 5, .int .u8 10, .int .u8 9]
def tabD6 : Array Value := #[.int .u8 0, .int .u8 1, .int .u8 56, .int .u8 2, .int .u8 57, .int .u8 49, .int .u8 28, .int .u8 3, .int .u8 61, .int .u8 58, .int .u8 42, .int .u8 50, .int .u8 38, .int .u8 29, .int .u8 17, .int .u8 4, .int .u8 62, .int .u8 47, .int .u8 59, .int .u8 36, .int .u8 45, .int .u8 43, .int .u8 51, .int .u8 22, .int .u8 53, .int .u8 39, .int .u8 33, .int .u8 30, .int .u8 24, .int .u8 18, .int .u8 12, .int .u8 5, .int .u8 63, .int .u8 55, .int .u8 48, .int .u8 27, .int .u8 60, .int .u8 41, .int .u8 37, .int .u8 16, .int .u8 46, .int .u8 35, .int .u8 44, .int .u8 21, .int .u8 52, .int .u8 32, .int .u8 23, .int .u8 11, .int .u8 54, .int .u8 26, .int .u8 40, .int .u8 15, .int .u8 34, .int .u8 20, .int .u8 31, .int .u8 10, .int .u8 25, .int .u8 14, .int .u8 19, .int .u8 9, .int .u8 13, .int .u8 8, .int .u8 7, .int .u8 6]
def tabP10 : Array Value := #[.int .u64 1, .int .u64 10, .int .u64 100, .int .u64 1000, .int .u64 10000, .int .u64 100000, .int .u64 1000000, .int .u64 10000000, .int .u64 100000000, .int .u64 1000000000, .int .u64 10000000000, .int .u64 100000000000, .int .u64 1000000000000, .int .u64 10000000000000, .int .u64 100000000000000, .int .u64 1000000000000000, .int .u64 10000000000000000, .int .u64 100000000000000000, .int .u64 1000000000000000000, .int .u64 10000000000000000000]
def tabOps : Array Value := #[.string ⟨#[]⟩, .int .i64 0, .string ⟨#[124, 124]⟩, .int .i64 1, .string ⟨#[38, 38]⟩, .int .i64 2, .string ⟨#[61, 61]⟩, .int .i64 3, .string ⟨#[33, 61]⟩, .int .i64 3, .string ⟨#[60]⟩, .int .i64 3, .string ⟨#[60, 61]⟩, .int .i64 3, .string ⟨#[62]⟩, .int .i64 3, .string ⟨#[62, 61]⟩, .int .i64 3, .string ⟨#[43]⟩, .int .i64 4, .string ⟨#[45]⟩, .int .i64 4, .string ⟨#[124]⟩, .int .i64 4, .string ⟨#[94]⟩, .int .i64 4, .string ⟨#[42]⟩, .int .i64 5, .string ⟨#[47]⟩, .int .i64 5, .string ⟨#[37]⟩, .int .i64 5, .string ⟨#[38]⟩, .int .i64 5, .string ⟨#[60, 60]⟩, .int .i64 5, .string ⟨#[62, 62]⟩, .int .i64 5]
def tabUn : Array Value := #[.string ⟨#[]⟩, .string ⟨#[45]⟩, .string ⟨#[33]⟩, .string ⟨#[126]⟩]
def tabMB : Array Value := #[.string ⟨#[]⟩, .int .i64 0, .string ⟨#[114, 101, 97, 100]⟩, .int .i64 1, .string ⟨#[104, 97, 115]⟩, .int .i64 1, .string ⟨#[108, 105, 115, 116]⟩, .int .i64 1, .string ⟨#[116, 111, 111, 108]⟩, .int .i64 2, .string ⟨#[97, 114, 103]⟩, .int .i64 0, .string ⟨#[108, 101, 110]⟩, .int .i64 1, .string ⟨#[97, 116]⟩, .int .i64 2, .string ⟨#[99, 117, 116]⟩, .int .i64 3, .string ⟨#[102, 105, 110, 100]⟩, .int .i64 2, .string ⟨#[99, 104, 114]⟩, .int .i64 1, .string ⟨#[100, 101, 99]⟩, .int .i64 1, .string ⟨#[110, 117, 109]⟩, .int .i64 1]
def tabTW : Array Value := #[.string ⟨#[]⟩, .string ⟨#[98, 111, 111, 108]⟩, .string ⟨#[116, 101, 120, 116]⟩, .string ⟨#[117, 56]⟩, .string ⟨#[117, 49, 54]⟩, .string ⟨#[117, 51, 50]⟩, .string ⟨#[117, 54, 52]⟩, .string ⟨#[105, 56]⟩, .string ⟨#[105, 49, 54]⟩, .string ⟨#[105, 51, 50]⟩, .string ⟨#[105, 54, 52]⟩]
def startIn : Input := ⟨#[], #[], []⟩
set_option maxRecDepth 100000 in
theorem contract_fnExactMillPrint (H : Type) (enc : TypeId × Value → H) (W : World) (base : Nat) (args : Array Value) (ds gs : List (DataW H)) (before : List MemPlace)
    (hval : ∀ (j : Nat) t v, Tryz.f3.params[j]? = some t → args[j]? = some v → Value.okWide Tryz.prog W .any base t v)
    (hW : DataW.Whole enc Tryz.prog Tryz.f3.params.toList Rows.fnExactMillPrintSpec.vars false W args.toList ds gs before) (hL : laidMetH Tryz.prog Rows.fnExactMillPrintRow.laid W) :
    Calls Tryz.prog 3 args W fun e W' => ∃ v, e = .returned v ∧ Rows.fnExactMillPrintSpec.post enc Tryz.prog Tryz.f3 false true false false W args v W' := by
  have hW' := hW
  obtain ⟨p, q, hA0, hV, rfl, hfz, hnd⟩ := hW
  have hA : DataW.TrodAll enc Tryz.prog W 0 (fun _ => true) true Tryz.f3.params.toList args.toList ds p := hA0
  rw [Tryz.params3] at hA hval
  obtain ⟨v0, vs0, d0, ds0, p0, q0, hargs, rfl, rfl, h0, r0⟩ := trodAll_cons hA
  obtain ⟨rfl, rfl, rfl⟩ := trodAll_nil r0
  obtain rfl : args = #[v0] := by cases args; simp_all
  obtain ⟨ad, N, cap, nd, rfl, hN, hn, ht⟩ := tree_open (hval 0 24 v0 rfl rfl) h0
  have hlt : ∀ x ∈ p0, x.block < W.heap.size := fun x hx => DataW.TrodAll.lt hA x (by simpa using hx)
  clear hA0
  obtain ⟨g1, g2, g3, g4, hg1⟩ : ∃ g1 g2 g3 g4, gs = [g1, g2, g3, g4] := by
    have := trodVars_len _ _ _ hV
    match gs, this with
    | [g1, g2, g3, g4], _ => exact ⟨g1, g2, g3, g4, rfl⟩
  subst hg1
  simp only [List.append_nil] at hW'
  refine (lawP_any ad N cap nd W (env_of_laid hL).1 (env_of_laid hL).2 hN hn ht).mono fun e W' ⟨he, hnx⟩ => ?_
  subst he
  refine ⟨_, rfl, _, _, _, [], p0, q, hW', ?_, ?_, ?_, hnx.frame _, fun h => by cases h⟩
  · exact trodAll_mk1 (shut_bool Tryz.underlying4 _)
  · exact trodAll_mk1 (hnx.trod laidOut readT (of_decide_eq_true (by kernel_rfl)) h0 hlt)
  · exact hnx.trodVars laidOut varsOk hV
theorem laid_met_fnExactMillPrint (os : Os) : laidMet Tryz.prog Rows.fnExactMillPrintRow.laid (({ World.holding Tryz.prog os startIn with heap := ((((((((World.holding Tryz.prog os startIn).heap.modify 6 (putCells tabD3)).modify 7 (putCells tabD6)).modify 5 (putCells tabP10)).modify 3 (putCells tabOps)).modify 2 (putCells tabUn)).modify 1 (putCells tabMB)).modify 0 (putCells tabTW)) } : World).forCall (fun _ _ => 0) ⟨#[], #[.agg #[.slice none 0 0]], []⟩).memory :=
  laidMet_of_run' 8 (by kernel_rfl) (by kernel_rfl)
theorem reads_fnExactMillPrint (os : Os) {H : Type} (enc : TypeId × Value → H) : ∃ places, DataW.whole enc Tryz.prog (({ World.holding Tryz.prog os startIn with heap := ((((((((World.holding Tryz.prog os startIn).heap.modify 6 (putCells tabD3)).modify 7 (putCells tabD6)).modify 5 (putCells tabP10)).modify 3 (putCells tabOps)).modify 2 (putCells tabUn)).modify 1 (putCells tabMB)).modify 0 (putCells tabTW)) } : World).forCall (fun _ _ => 0) ⟨#[], #[.agg #[.slice none 0 0]], []⟩).memory Tryz.f3.params.toList Rows.fnExactMillPrintSpec.vars false #[Value.agg #[.slice none 0 0]].toList 8 = some ([.agg [.nil]], [Rows.laid_loop_example_kilnyard_impl_millBuilts, Rows.laid_loop_example_kilnyard_impl_millTypeWords, Rows.laid_loop_example_kilnyard_impl_millUnMarks, Rows.laid_loop_example_kilnyard_impl_millOps], places) :=
  ⟨MemPlace.row ⟨1, 0, none⟩ 26 ++ (MemPlace.row ⟨0, 0, none⟩ 11 ++ (MemPlace.row ⟨2, 0, none⟩ 4 ++ MemPlace.row ⟨3, 0, none⟩ 38)), by kernel_rfl⟩
set_option maxRecDepth 100000 in
theorem lifted_fnExactMillPrint (os : Os) (started : os.Started) (H : Type) (enc : TypeId × Value → H) (F : Stop.Interp) :
    ReturnsInHanded {} Tryz.checked os 3 .any ((OpenSpec.ofChange Rows.fnExactMillPrintSpec).preRow enc Tryz.prog Tryz.f3 Rows.fnExactMillPrintRow.domain false Rows.fnExactMillPrintRow.laid) (((OpenSpec.ofChange Rows.fnExactMillPrintSpec).at F).post enc Tryz.prog Tryz.f3 false true false false) := by
  obtain ⟨places, hx⟩ := reads_fnExactMillPrint os enc
  refine returnsInHanded_of_row (C := Tryz.checked) (s := OpenSpec.ofChange Rows.fnExactMillPrintSpec) own started (by kernel_rfl) Tryz.func3
    (witness_row_at (enc := enc) (C := Tryz.checked) false ({ World.holding Tryz.prog os startIn with heap := ((((((((World.holding Tryz.prog os startIn).heap.modify 6 (putCells tabD3)).modify 7 (putCells tabD6)).modify 5 (putCells tabP10)).modify 3 (putCells tabOps)).modify 2 (putCells tabUn)).modify 1 (putCells tabMB)).modify 0 (putCells tabTW)) } : World) #[.agg #[.slice none 0 0]] rfl (by kernel_rfl) (by kernel_rfl) (by kernel_rfl)
      (OpenSpec.preRow_of_cond 8 hx (by kernel_rfl) (fun k hk => by cases hk) (by kernel_rfl) (laid_met_fnExactMillPrint os))) ?_
  intro W base args ds gs before hval hW _ _ _ hL _ _
  exact contract_fnExactMillPrint H enc W base args ds gs before hval hW hL
theorem said_fnExactMillPrint : Rows.FnExactMillPrintSaid :=
  OpenClaim.holds_of_cond 3 Tryz.f3 rfl rfl rfl rfl rfl rfl rfl ⟨rfl, rfl, rfl, rfl, rfl⟩ rfl rfl rfl rfl rfl (by kernel_rfl) Tryz.func3 (by kernel_rfl)
    (of_decide_eq_true (by kernel_rfl)) (by unfold Func.isWrapper; first | (rw [if_pos (by decide +kernel)]; kernel_rfl) | (rw [if_neg (by decide +kernel)]; exact ⟨rfl, rfl⟩))
    (fun os started H enc _ F => by rw [OpenClaim.pre_eq_preRow]; exact lifted_fnExactMillPrint os started H enc F)
/-- No parameter wants a stand-in; the program's own looks are off: what the card asks. -/
theorem plain_fnExactMillPrint (f : FuncId) (fn : Func) (hf : Tryz.pinned.checked.prog.funcNamed "loop.example/kilnyard/laws.FnExactMillPrint" = some f) (hfn : Tryz.pinned.checked.prog.funcs[f]? = some fn) :
    true = Tryz.pinned.checked.prog.looks [] ∧ ∀ (j : Nat) t, fn.params[j]? = some t → Tryz.pinned.checked.prog.wantsStandIn t = false := by
  obtain rfl : f = 3 := Option.some.inj ((show Tryz.prog.funcNamed "loop.example/kilnyard/laws.FnExactMillPrint" = some 3 by kernel_rfl).symm.trans hf) |>.symm
  obtain rfl : fn = Tryz.f3 := (Option.some.inj (Tryz.func3.symm.trans hfn)).symm
  refine ⟨by kernel_rfl, fun j t ht => ?_⟩
  rw [Tryz.params3] at ht
  obtain rfl : t = 24 := by simpa using Array.mem_of_getElem? ht
  exact (show Tryz.prog.wantsStandIn 24 = false by kernel_rfl)
/-- The card. -/
theorem card_fnExactMillPrint : Rows.FnExactMillPrintCardSaid :=
  Claim7.holds_tied_plain_at .later [] _ _ _ _ said_fnExactMillPrint (fun _ h => by cases h) (by kernel_rfl) (fun _ h => by cases h) fnExactMillPrint_row_tie rfl ⟨rfl, rfl⟩ (by kernel_rfl) rfl plain_fnExactMillPrint (by kernel_rfl)
#print axioms card_fnExactMillPrint
end Go.Proofs.YtkngjbpbjjoneaaGreatDoor.Q
namespace Go.Proofs.YtkngjbpbjjoneaaGreatDoor
/-- The given card. -/
theorem card_fnExactMillPrint : Rows.FnExactMillPrintCardSaid := Q.card_fnExactMillPrint
#print axioms card_fnExactMillPrint
end Go.Proofs.YtkngjbpbjjoneaaGreatDoor
