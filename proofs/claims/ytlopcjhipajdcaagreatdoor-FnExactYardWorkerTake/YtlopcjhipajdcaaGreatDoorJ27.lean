import Derived.Maps.AppendAt
import Derived.Lib.Slices
import Derived.Lib.Strings
import Derived.Lib.BufferRead
import Derived.Deep.RegionLaw
import Derived.Deep.RegionWith
import Derived.Deep.DeepCutAuto
import Derived.Test.YtlopcjhipajdcaaGreatDoorJ09
/-! Texts of the model. Printed by gen_ytext.py. -/
namespace Go.Proofs.YtlopcjhipajdcaaGreatDoor.Y
open Go.RowKit
open Go.Proofs.YtlopcjhipajdcaaGreatDoor.R (info_parts hid add_at)
open Go.Proofs.YtlopcjhipajdcaaGreatDoor.J (cell_new_row own_below len_size)
set_option maxRecDepth 20000
def hexd (n : Nat) : UInt8 := if n < 10 then UInt8.ofNat (48 + n) else UInt8.ofNat (87 + n)
def quoteB (b : UInt8) : List UInt8 := if 32 ≤ b.toNat ∧ b.toNat ≤ 126 ∧ b.toNat ≠ 34 ∧ b.toNat ≠ 92 then [b] else [92, hexd (b.toNat / 16), hexd (b.toNat % 16)]
def quoteL (t : List UInt8) : List UInt8 := 34 :: (t.flatMap quoteB ++ [34])
theorem quoteB_len (b : UInt8) : (quoteB b).length ≤ 3 := by unfold quoteB; split <;> simp
theorem quoteL_len (t : List UInt8) : (quoteL t).length ≤ 3 * t.length + 2 := by
  have : (t.flatMap quoteB).length ≤ 3 * t.length := by
    induction t with
    | nil => simp
    | cons a t ih => have := quoteB_len a; simp only [List.flatMap_cons, List.length_append, List.length_cons]; omega
  simp only [quoteL, List.length_cons, List.length_append, List.length_nil]; omega
theorem quote_take_succ (s : ByteArray) (q : Nat) (h : q < s.size) : (s.data.toList.take (q + 1)).flatMap quoteB = (s.data.toList.take q).flatMap quoteB ++ quoteB s[q] := by
  rw [List.take_succ_eq_append_getElem (by rw [len_size]; exact h), List.flatMap_append]
  simp
  rfl
/-- 'append' to a row of the call's own, as one step of a region that draws its order. -/
theorem step_append_own_at {P : Program} {ops : Array Oper} {o : Oper} {a : Act} {w : World} {K : Act → World → Prop} {Q : Exit → Act → World → Prop} {E : Prop} (hg : o.guard = none) (s x : Operand) (t : TypeId)
    (hop : o.op = Op.call { callee := Callee.builtin Builtin.append, args := #[s, x], argTypes := #[t, t] })
    (base : Nat) (e : TypeId) (i : TypeInfo) (z : Value) (size bytes : Nat) (ht : P.underlying t = some (.slice e)) (hi : P.info? e = some i) (hz : i.zero = some z)
    (hsize : i.size = size) (hby : i.bytes = bytes) (hzs : z.cells.size = size) (hsz : 0 < size)
    (v : Value) (n : Nat) (xs : List Value) (hs : a.eval s = v) (hown : w.ownsRow base e size v n xs)
    (ad : Addr) (m c : Nat) (news : List Value) (hx : a.eval x = .slice (some ad) m c) (hl : news.length = m * size) (hnews : ∀ j u, news[j]? = some u → w.cell? (ad.add j) = some u) (h1 : ∀ u ∈ news, u.oneCell' = true)
    (h63 : n + m ≤ maxLen) (hbytes : (n + m) * bytes ≤ 140737488355328) (hbase : base ≤ w.heap.size)
    (h : ∀ v' w', w'.ownsRow base e size v' (n + m) (xs ++ news) → w.grownBy w' v.ownBlock → (v' = .slice none 0 0 ↔ v = .slice none 0 0 ∧ m = 0) → (v'.ownBlock = v.ownBlock ∨ v'.ownBlock = some w.heap.size) → K (a.put o.dst v') w') :
    if Region.wanted o (yielded ops a.tmps) = true then Oper.wp P o a w K Q else E := by
  have hw : Region.wanted o (yielded ops a.tmps) = true := by simp [Region.wanted, hg]
  rw [if_pos hw]
  obtain ⟨v', w', hr, h2, h3, h4, h5⟩ := run_append_own_at (P := P) w base t o.type e i z size bytes ht hi hz hsize hby hzs hsz v n xs hown ad m c news hl hnews h1 h63 hbytes hbase
  unfold Oper.wp
  simp [execOp, hop, resolve, invoke, builtin, hs, hx, hr, Result.andThen]
  exact h v' w' h2 h3 h4 h5
/-- 'string(b)' of a row that the call owns. -/
theorem conv_row (w : World) (base : Nat) (v : Value) (l : List UInt8) (h : w.ownsRow base 5 1 v l.length (Lib.byteCells l)) :
    (convert 112 9 v).run Tryz.prog w = .ok (.string ⟨l.toArray⟩) w := by
  obtain ⟨_, ⟨rfl, h0⟩ | ⟨g, cap, cur, rfl, _, hg, _, _, _, htk⟩⟩ := h
  · have e : l = [] := List.eq_nil_of_length_eq_zero h0
    subst e
    exact Lib.run_convert_nil_bytes w _ _ 5 0 Tryz.underlying112 Tryz.underlying5 Tryz.underlying9
  · exact run_convert_bytes_back w _ _ 5 _ cap l Tryz.underlying112 Tryz.underlying5 Tryz.underlying9 (Lib.bytes_of_row hg (by rw [Nat.mul_one] at htk; exact htk))

theorem own_slice' {w : World} {B e size k : Nat} {v : Value} {xs : List Value} (h : w.ownsRow B e size v k xs) : ∃ a cap, v = .slice a k cap := by
  rcases h.2 with ⟨hv, h0⟩ | ⟨g, cap, cur, hv, _⟩
  · exact ⟨none, 0, by rw [hv, h0]⟩
  · exact ⟨_, _, hv⟩
theorem dig_byte : ∀ A : Nat, A < 16 → ∃ h : A < (⟨#[48, 49, 50, 51, 52, 53, 54, 55, 56, 57, 97, 98, 99, 100, 101, 102]⟩ : ByteArray).size, (⟨#[48, 49, 50, 51, 52, 53, 54, 55, 56, 57, 97, 98, 99, 100, 101, 102]⟩ : ByteArray)[A] = hexd A := by decide +kernel
set_option maxHeartbeats 4000000 in
theorem l1Quote_any (s : ByteArray) (w : World) (hs : s.size ≤ 2000000) :
    Calls Tryz.prog 52 #[.string s] w fun e w' => e = .returned (.string ⟨(quoteL s.data.toList).toArray⟩) ∧ Below w.heap.size w w' := by
  obtain ⟨i0, hi, hz0, hz1, hz2⟩ := info_parts (P := Tryz.prog) (e := 5) (z := .int .u8 0) (size := 1) (bytes := 1) (by kernel_rfl)
  have HHI := hid (And.intro hi (And.intro hz0 (And.intro hz1 hz2)))
  clear hi hz0 hz1 hz2
  have HFL : Hid (∀ q, ([34] ++ (s.data.toList.take q).flatMap quoteB).length ≤ 1 + 3 * s.size) := fun q => by
    have : ∀ t : List UInt8, (t.flatMap quoteB).length ≤ 3 * t.length := fun t => by
      induction t with
      | nil => simp
      | cons a t ih => have := quoteB_len a; simp only [List.flatMap_cons, List.length_append, List.length_cons]; omega
    have h2 := this (s.data.toList.take q)
    have h3 := List.length_take_le q s.data.toList
    have h4 : (s.data.toList.take q).length ≤ s.size := by rw [List.length_take, len_size]; omega
    simp only [List.length_append, List.length_cons, List.length_nil]
    omega
  have HST : Hid ((w.alloc (.cells #[.int .u8 34] 5)).ownsRow w.heap.size 5 1 (.slice (some ⟨w.heap.size, 0, none⟩) 1 1) 1 (Lib.byteCells [34])) :=
    ⟨rfl, .inr ⟨w.heap.size, 1, #[.int .u8 34], rfl, Nat.le_refl _, heap_alloc_new w _, Nat.le_refl _, by unfold maxLen; omega, rfl, rfl⟩⟩
  go_enter Tryz.func52, Tryz.ntmps52
  go_wp2
  go_loopw [3, 5] (fun v a wr => ∃ q : Nat, q ≤ s.size ∧ a = .int .i64 q ∧ wr.ownsRow w.heap.size 5 1 v ([34] ++ (s.data.toList.take q).flatMap quoteB).length (Lib.byteCells ([34] ++ (s.data.toList.take q).flatMap quoteB)) ∧ Below w.heap.size w wr) (fun _ a _ => s.size - (intOf a).toNat)
  case atStart => exact ⟨0, Nat.zero_le _, rfl, by simpa using HST.out, (Below.refl _ _).alloc (Nat.le_refl _) _⟩
  case round =>
    obtain ⟨q, hq, rfl, hown, hbel⟩ := hrel
    have OWN := hid hown
    have HB := hid hbel
    have hz := hbel.size
    have HF := hid (HFL.out q)
    obtain ⟨L, hL⟩ : ∃ L, [34] ++ (s.data.toList.take q).flatMap quoteB = L := ⟨_, rfl⟩
    have HLE := hid hL
    rw [hL] at OWN HF
    clear hown hbel hL
    by_cases hlt : q < s.size
    · have HT := hid (quote_take_succ s q hlt)
      obtain ⟨c, hc⟩ : ∃ c, s[q] = c := ⟨_, rfl⟩
      have hcb := c.toNat_lt
      rw [hc] at HT
      obtain ⟨ao, cap, rfl⟩ := own_slice' OWN.out
      by_cases hp : 32 ≤ c.toNat ∧ c.toNat ≤ 126 ∧ c.toNat ≠ 34 ∧ c.toNat ≠ 92
      · have HE : Hid (quoteB c = [c]) := if_pos hp
        have g1 : (32 : Int) ≤ c.toNat := by omega
        have g2 : (c.toNat : Int) ≤ 126 := by omega
        have g3 : ((c.toNat : Int) != 34) = true := by simp; omega
        have g4 : ((c.toNat : Int) != 92) = true := by simp; omega
        clear hp
        go_wp2_with (at_builtin; refine wpList_append_own _ rfl (.tmp 35) (.tmp 39) 112 rfl w.heap.size 5 i0 (.int .u8 0) 1 1 Tryz.underlying112 HHI.out.1 HHI.out.2.1 HHI.out.2.2.1 HHI.out.2.2.2 rfl (by decide) _ _ _ rfl (OWN.out.alloc _) ⟨wr.heap.size, 0, none⟩ 1 1 [.int .u8 c.toNat] rfl rfl ?c1 ?c2 ?c3 ?c4 ?c5 ?_)
        case c1 =>
          intro j u hj
          match j, hj with
          | 0, hj => simp at hj; subst hj; simp [Addr.add]
        case c2 => intro u hu; simp at hu; subst hu; rfl
        case c3 => have := HF.out; unfold maxLen; omega
        case c4 => have := HF.out; omega
        case c5 => simp; omega
        intro v' w1 hown' hgrow _
        have HO1 : Hid (w1.ownsRow w.heap.size 5 1 v' (L ++ [c]).length (Lib.byteCells (L ++ [c]))) := by
          show World.ownsRow _ _ _ _ _ _ _
          simpa [Lib.byteCells] using hown'
        have HB1 := hid ((HB.out.alloc hz (.cells #[.int .u8 c.toNat] 5)).grown hgrow (by simp; omega) (fun k e => (OWN.out.lt k e).1))
        obtain ⟨a1, c1, rfl⟩ := own_slice' HO1.out
        clear hown' hgrow
        go_wp2
        go_roundw
        case rel => exact ⟨q + 1, by omega, by go_num, by rw [HT.out, HE.out, ← List.append_assoc, HLE.out]; exact HO1.out, HB1.out⟩
        case measure => simp [intOf]; omega
      · have HE : Hid (quoteB c = [92, hexd (c.toNat / 16), hexd (c.toNat % 16)]) := if_neg hp
        have hcase : c.toNat < 32 ∨ (32 ≤ c.toNat ∧ 126 < c.toNat) ∨ (32 ≤ c.toNat ∧ c.toNat ≤ 126 ∧ c.toNat = 34) ∨ (32 ≤ c.toNat ∧ c.toNat ≤ 126 ∧ c.toNat = 92) := by omega
        have hX : (c.toNat : Int) / 16 = ((c.toNat / 16 : Nat) : Int) := by omega
        have hY : (c.toNat : Int).tmod 16 = ((c.toNat % 16 : Nat) : Int) := by rw [Int.tmod_eq_emod_of_nonneg (by omega)]; omega
        obtain ⟨A, hA⟩ : ∃ A, c.toNat / 16 = A := ⟨_, rfl⟩
        obtain ⟨D, hD⟩ : ∃ D, c.toNat % 16 = D := ⟨_, rfl⟩
        rw [hA] at hX HE
        rw [hD] at hY HE
        have hA16 : A < 16 := by omega
        have hD16 : D < 16 := by omega
        obtain ⟨_, ixA⟩ := dig_byte A hA16
        obtain ⟨_, ixD⟩ := dig_byte D hD16
        have wA : IntKind.u8.wrap (A : Int) = (A : Int) := by rw [IntKind.wrap_u8]; omega
        have wD : IntKind.u8.wrap (D : Int) = (D : Int) := by rw [IntKind.wrap_u8]; omega
        have bA : (A : Int) < 16 := by omega
        have bD : (D : Int) < 16 := by omega
        have OWD : Hid ((wr.drew.alloc (.cells #[.int .u8 92, .int .u8 (hexd A).toNat, .int .u8 (hexd D).toNat] 5)).ownsRow w.heap.size 5 1 (.slice ao L.length cap) L.length (Lib.byteCells L)) := (own_below OWN.out (Below.refl _ _).drew).alloc _
        have NEW : Hid (∀ j u, ([.int .u8 92, .int .u8 (hexd A).toNat, .int .u8 (hexd D).toNat] : List Value)[j]? = some u → (wr.drew.alloc (.cells #[.int .u8 92, .int .u8 (hexd A).toNat, .int .u8 (hexd D).toNat] 5)).cell? ((⟨wr.heap.size, 0, none⟩ : Addr).add j) = some u) := fun j u hj => by
          have e := cell_new_row wr.drew #[.int .u8 92, .int .u8 (hexd A).toNat, .int .u8 (hexd D).toNat] 5 j
          rw [add_at]
          exact e.trans (by simpa using hj)
        have ONE : Hid (∀ u ∈ ([.int .u8 92, .int .u8 (hexd A).toNat, .int .u8 (hexd D).toNat] : List Value), u.oneCell' = true) := fun u hu => by
          simp at hu
          rcases hu with rfl | rfl | rfl <;> rfl
        have HL3 : Hid ((L ++ [92, hexd A, hexd D]).length = L.length + 3) := by show _ = _; simp
        have HM : Hid (L.length + 3 ≤ maxLen) := by show _ ≤ _; have := HF.out; unfold maxLen; omega
        have HNX : Hid (∀ v' w1, World.ownsRow w1 w.heap.size 5 1 v' (L.length + 3) (Lib.byteCells L ++ [.int .u8 92, .int .u8 (hexd A).toNat, .int .u8 (hexd D).toNat]) → World.ownsRow w1 w.heap.size 5 1 v' (L ++ [92, hexd A, hexd D]).length (Lib.byteCells (L ++ [92, hexd A, hexd D]))) := fun v' w1 h => by
          simpa [Lib.byteCells] using h
        have HBX : Hid (∀ w1, (wr.drew.alloc (.cells #[.int .u8 92, .int .u8 (hexd A).toNat, .int .u8 (hexd D).toNat] 5)).grownBy w1 (Value.slice ao L.length cap).ownBlock → Below w.heap.size w w1) := fun w1 hg => (HB.out.drew.alloc hz _).grown hg (by simp; omega) (fun k e => (OWN.out.lt k e).1)
        clear hA hD hp
        rcases hcase with h1 | ⟨h1, h2⟩ | ⟨h1, h2, h3⟩ | ⟨h1, h2, h3⟩
        · have g1 : (c.toNat : Int) < 32 := by omega
          clear h1
          go_wp2_with fail
          go_region_law (refine step_append_own_at rfl (.tmp 41) (.tmp 54) 112 rfl w.heap.size 5 i0 (.int .u8 0) 1 1 Tryz.underlying112 HHI.out.1 HHI.out.2.1 HHI.out.2.2.1 HHI.out.2.2.2 rfl (by decide) (.slice ao L.length cap) L.length (Lib.byteCells L) (by simp [Act.eval]) OWD.out ⟨wr.heap.size, 0, none⟩ 3 3 [.int .u8 92, .int .u8 (hexd A).toNat, .int .u8 (hexd D).toNat] (by simp [Act.eval]) rfl NEW.out ONE.out HM.out (by have := HF.out; omega) (by simp; omega) ?_; intro v' w1 hown' hgrow h4 h5; have HO1 := hid (HNX.out v' w1 hown'); have HB1 := hid (HBX.out w1 hgrow); obtain ⟨a1, c1, rfl⟩ := own_slice' HO1.out; clear hown' hgrow h4 h5)
          all_goals
            go_wp2
            go_roundw
            case rel => exact ⟨q + 1, by omega, by go_num, by rw [HT.out, HE.out, ← List.append_assoc, HLE.out]; have h := HO1.out; rw [HL3.out] at h ⊢; exact h, HB1.out⟩
            case measure => simp [intOf]; omega
        · have g1 : (32 : Int) ≤ c.toNat := by omega
          have g2 : (126 : Int) < c.toNat := by omega
          clear h1 h2
          go_wp2_with fail
          go_region_law (refine step_append_own_at rfl (.tmp 41) (.tmp 54) 112 rfl w.heap.size 5 i0 (.int .u8 0) 1 1 Tryz.underlying112 HHI.out.1 HHI.out.2.1 HHI.out.2.2.1 HHI.out.2.2.2 rfl (by decide) (.slice ao L.length cap) L.length (Lib.byteCells L) (by simp [Act.eval]) OWD.out ⟨wr.heap.size, 0, none⟩ 3 3 [.int .u8 92, .int .u8 (hexd A).toNat, .int .u8 (hexd D).toNat] (by simp [Act.eval]) rfl NEW.out ONE.out HM.out (by have := HF.out; omega) (by simp; omega) ?_; intro v' w1 hown' hgrow h4 h5; have HO1 := hid (HNX.out v' w1 hown'); have HB1 := hid (HBX.out w1 hgrow); obtain ⟨a1, c1, rfl⟩ := own_slice' HO1.out; clear hown' hgrow h4 h5)
          all_goals
            go_wp2
            go_roundw
            case rel => exact ⟨q + 1, by omega, by go_num, by rw [HT.out, HE.out, ← List.append_assoc, HLE.out]; have h := HO1.out; rw [HL3.out] at h ⊢; exact h, HB1.out⟩
            case measure => simp [intOf]; omega
        · have g1 : (32 : Int) ≤ c.toNat := by omega
          have g2 : (c.toNat : Int) ≤ 126 := by omega
          have g3 : ((c.toNat : Int) != 34) = false := by simp; omega
          clear h1 h2 h3
          go_wp2_with fail
          go_region_law (refine step_append_own_at rfl (.tmp 41) (.tmp 54) 112 rfl w.heap.size 5 i0 (.int .u8 0) 1 1 Tryz.underlying112 HHI.out.1 HHI.out.2.1 HHI.out.2.2.1 HHI.out.2.2.2 rfl (by decide) (.slice ao L.length cap) L.length (Lib.byteCells L) (by simp [Act.eval]) OWD.out ⟨wr.heap.size, 0, none⟩ 3 3 [.int .u8 92, .int .u8 (hexd A).toNat, .int .u8 (hexd D).toNat] (by simp [Act.eval]) rfl NEW.out ONE.out HM.out (by have := HF.out; omega) (by simp; omega) ?_; intro v' w1 hown' hgrow h4 h5; have HO1 := hid (HNX.out v' w1 hown'); have HB1 := hid (HBX.out w1 hgrow); obtain ⟨a1, c1, rfl⟩ := own_slice' HO1.out; clear hown' hgrow h4 h5)
          all_goals
            go_wp2
            go_roundw
            case rel => exact ⟨q + 1, by omega, by go_num, by rw [HT.out, HE.out, ← List.append_assoc, HLE.out]; have h := HO1.out; rw [HL3.out] at h ⊢; exact h, HB1.out⟩
            case measure => simp [intOf]; omega
        · have g1 : (32 : Int) ≤ c.toNat := by omega
          have g2 : (c.toNat : Int) ≤ 126 := by omega
          have g3 : ((c.toNat : Int) != 34) = true := by simp; omega
          have g4 : ((c.toNat : Int) != 92) = false := by simp; omega
          clear h1 h2 h3
          go_wp2_with fail
          go_region_law (refine step_append_own_at rfl (.tmp 41) (.tmp 54) 112 rfl w.heap.size 5 i0 (.int .u8 0) 1 1 Tryz.underlying112 HHI.out.1 HHI.out.2.1 HHI.out.2.2.1 HHI.out.2.2.2 rfl (by decide) (.slice ao L.length cap) L.length (Lib.byteCells L) (by simp [Act.eval]) OWD.out ⟨wr.heap.size, 0, none⟩ 3 3 [.int .u8 92, .int .u8 (hexd A).toNat, .int .u8 (hexd D).toNat] (by simp [Act.eval]) rfl NEW.out ONE.out HM.out (by have := HF.out; omega) (by simp; omega) ?_; intro v' w1 hown' hgrow h4 h5; have HO1 := hid (HNX.out v' w1 hown'); have HB1 := hid (HBX.out w1 hgrow); obtain ⟨a1, c1, rfl⟩ := own_slice' HO1.out; clear hown' hgrow h4 h5)
          all_goals
            go_wp2
            go_roundw
            case rel => exact ⟨q + 1, by omega, by go_num, by rw [HT.out, HE.out, ← List.append_assoc, HLE.out]; have h := HO1.out; rw [HL3.out] at h ⊢; exact h, HB1.out⟩
            case measure => simp [intOf]; omega
    · obtain rfl : q = s.size := by omega
      have HTA : Hid (s.data.toList.take s.size = s.data.toList) := List.take_of_length_le (by rw [len_size]; exact Nat.le_refl _)
      obtain ⟨ao, cap, rfl⟩ := own_slice' OWN.out
      go_wp2_with (at_builtin; refine wpList_append_own _ rfl _ _ 112 rfl w.heap.size 5 i0 (.int .u8 0) 1 1 Tryz.underlying112 HHI.out.1 HHI.out.2.1 HHI.out.2.2.1 HHI.out.2.2.2 rfl (by decide) _ _ _ rfl (OWN.out.alloc _) ⟨wr.heap.size, 0, none⟩ 1 1 [.int .u8 34] rfl rfl ?c1 ?c2 ?c3 ?c4 ?c5 ?_)
      case c1 =>
        intro j u hj
        match j, hj with
        | 0, hj => simp at hj; subst hj; simp [Addr.add]
      case c2 => intro u hu; simp at hu; subst hu; rfl
      case c3 => have := HF.out; unfold maxLen; omega
      case c4 => have := HF.out; omega
      case c5 => simp; omega
      intro v' w1 hown' hgrow _
      have HO1 : Hid (w1.ownsRow w.heap.size 5 1 v' (L ++ [34]).length (Lib.byteCells (L ++ [34]))) := by
        show World.ownsRow _ _ _ _ _ _ _
        simpa [Lib.byteCells] using hown'
      have HB1 := hid ((HB.out.alloc hz (.cells #[.int .u8 34] 5)).grown hgrow (by simp; omega) (fun k e => (OWN.out.lt k e).1))
      have hcv := conv_row w1 w.heap.size v' (L ++ [34]) HO1.out
      clear hown' hgrow
      go_wp2
      go_ret
      refine ⟨?_, HB1.out⟩
      rw [← HLE.out, HTA.out]
      simp [quoteL]
theorem conv_one (W : World) (d : Int) (b : UInt8) (hd : (b.toNat : Int) = d) : (convert 112 9 (.slice (some ⟨W.heap.size, 0, none⟩) 1 1)).run Tryz.prog (W.alloc (.cells #[.int .u8 d] 5)) = .ok (.string ⟨[b].toArray⟩) (W.alloc (.cells #[.int .u8 d] 5)) := by
  refine run_convert_bytes_back (W.alloc (.cells #[.int .u8 d] 5)) 112 9 5 ⟨W.heap.size, 0, none⟩ 1 [b] Tryz.underlying112 Tryz.underlying5 Tryz.underlying9 ?_
  intro j hj
  obtain rfl : j = 0 := by simpa using hj
  have h := cell_new_row W #[.int .u8 d] 5 0
  subst hd
  exact h
set_option maxHeartbeats 1000000 in
theorem dec_step (n : Nat) (k : Nat) (M : Int) (w : World) (hn : 10 ≤ n) (hM : IntKind.i64.wrap ((n / 10 : Nat) : Int) = M) (hk : k ≤ 30)
    (ih : ∀ W, Calls Tryz.prog 77 #[.int .i64 M] W fun e w' => ∃ s : ByteArray, e = .returned (.string s) ∧ s.size ≤ k ∧ Below W.heap.size W w') :
    Calls Tryz.prog 77 #[.int .i64 n] w fun e w' => ∃ s : ByteArray, e = .returned (.string s) ∧ s.size ≤ k + 1 ∧ Below w.heap.size w w' := by
  have hge : (10 : Int) ≤ n := by omega
  have HIH := hid ih
  have hq : (n : Int) / 10 = ((n / 10 : Nat) : Int) := by omega
  have hr : (n : Int).tmod 10 = ((n % 10 : Nat) : Int) := by rw [Int.tmod_eq_emod_of_nonneg (by omega)]; omega
  have hm : n % 10 < 10 := Nat.mod_lt _ (by omega)
  obtain ⟨D, hD⟩ : ∃ D, n % 10 = D := ⟨_, rfl⟩
  obtain ⟨Q, hQ⟩ : ∃ Q, n / 10 = Q := ⟨_, rfl⟩
  rw [hD] at hr hm
  rw [hQ] at hq hM
  have hw : IntKind.i64.wrap (48 + (D : Int)) = 48 + (D : Int) := by rw [IntKind.wrap_i64]; omega
  have hw2 : IntKind.u8.wrap (48 + (D : Int)) = 48 + (D : Int) := by rw [IntKind.wrap_u8]; omega
  have hcv : ∀ (g : Nat) (W : World), W.cell? ⟨g, 0, none⟩ = some (.int .u8 (48 + (D : Int))) → (convert 112 9 (.slice (some ⟨g, 0, none⟩) 1 1)).run Tryz.prog W = .ok (.string ⟨[UInt8.ofNat (48 + D)].toArray⟩) W := fun g W hg => by
    refine run_convert_bytes_back W 112 9 5 ⟨g, 0, none⟩ 1 [UInt8.ofNat (48 + D)] Tryz.underlying112 Tryz.underlying5 Tryz.underlying9 ?_
    intro j hj
    obtain rfl : j = 0 := by simpa using hj
    have e : ((UInt8.ofNat (48 + D)).toNat : Int) = 48 + (D : Int) := by rw [UInt8.toNat_ofNat']; omega
    show W.cell? _ = some (.int .u8 ((UInt8.ofNat (48 + D)).toNat : Int))
    rw [e]
    exact hg
  have cA := hcv w.heap.size (w.drew.alloc (.cells #[.int .u8 (48 + (D : Int))] 5)) (cell_new_row w.drew #[.int .u8 (48 + (D : Int))] 5 0)
  have cA2 := hcv w.heap.size (w.alloc (.cells #[.int .u8 (48 + (D : Int))] 5)).drew (cell_new_row w #[.int .u8 (48 + (D : Int))] 5 0)
  have HCV := hid hcv
  clear hcv hn hD hQ ih
  go_enter Tryz.func77, Tryz.ntmps77
  go_wp2_with fail
  go_region_with (go_at_call 77; refine (HIH.out _).mono ?_; rintro e w1 ⟨s1, rfl, hs1, hb1⟩; first | (have cB := HCV.out w.heap.size w1 ((hb1.cell (p := ⟨w.heap.size, 0, none⟩) (by simp)).trans (cell_new_row w #[.int .u8 (48 + (D : Int))] 5 0))) | (have cC := HCV.out w1.heap.size (w1.alloc (.cells #[.int .u8 (48 + (D : Int))] 5)) (cell_new_row w1 #[.int .u8 (48 + (D : Int))] 5 0)))
  all_goals
    have HS1 := hid hs1
    have HB1 := hid hb1
    clear hs1 hb1
    go_wp2
    go_ret
    refine ⟨_, rfl, by rw [ByteArray.size_append]; have := HS1.out; show s1.size + 1 ≤ _; omega, ?_⟩
    first
      | exact (((Below.refl w.heap.size w).drew.trans (HB1.out.mono (Nat.le_refl _))).alloc HB1.out.size _)
      | exact ((Below.refl w.heap.size w).alloc (Nat.le_refl _) _).drew.trans (HB1.out.mono (by simp))
theorem u8_of (x : Int) : ∃ b : UInt8, (b.toNat : Int) = IntKind.u8.wrap x := by
  have h := IntKind.wrap_u8 x
  refine ⟨UInt8.ofNat (IntKind.u8.wrap x).toNat, ?_⟩
  rw [UInt8.toNat_ofNat']
  omega
set_option maxHeartbeats 1000000 in
theorem dec_small (m : Int) (w : World) (hm : m < 10) :
    Calls Tryz.prog 77 #[.int .i64 m] w fun e w' => ∃ s : ByteArray, e = .returned (.string s) ∧ s.size ≤ 1 ∧ Below w.heap.size w w' := by
  obtain ⟨x, hx⟩ : ∃ x, IntKind.i64.wrap (48 + m) = x := ⟨_, rfl⟩
  obtain ⟨b, hb⟩ := u8_of x
  obtain ⟨d, hd⟩ : ∃ d, IntKind.u8.wrap x = d := ⟨_, rfl⟩
  rw [hd] at hb
  have hc := conv_one w d b hb
  clear hb
  go_enter Tryz.func77, Tryz.ntmps77
  go_wp2
  go_ret
  exact ⟨_, rfl, Nat.le_refl _, (Below.refl _ _).alloc (Nat.le_refl _) _⟩
theorem dec_nat (k : Nat) : ∀ (n : Nat) (w : World), n < 10 ^ (k + 1) → n ≤ 9223372036854775807 → k ≤ 20 →
    Calls Tryz.prog 77 #[.int .i64 n] w fun e w' => ∃ s : ByteArray, e = .returned (.string s) ∧ s.size ≤ k + 1 ∧ Below w.heap.size w w' := by
  induction k with
  | zero =>
    intro n w hn _ _
    have hn : n < 10 := by simpa using hn
    exact dec_small n w (by omega)
  | succ k ih =>
    intro n w hn hm hk
    by_cases h10 : n < 10
    · exact (dec_small n w (by omega)).mono fun e w' ⟨s, h1, h2, h3⟩ => ⟨s, h1, by omega, h3⟩
    · exact dec_step n (k + 1) ((n / 10 : Nat) : Int) w (by omega) (by rw [IntKind.wrap_i64]; omega) (by omega) (fun W => ih (n / 10) W (by rw [Nat.pow_succ] at hn; omega) (by omega) (by omega))
set_option maxHeartbeats 1000000 in
theorem l26Dec_any (n : Int) (w : World) (h1 : -1000000 ≤ n) (h2 : n ≤ 1000000) :
    Calls Tryz.prog 43 #[.int .i64 n] w fun e w' => ∃ s : ByteArray, e = .returned (.string s) ∧ s.size ≤ 20 ∧ Below w.heap.size w w' := by
  have HD : Hid (∀ W : World, Calls Tryz.prog 77 #[.int .i64 n] W fun e w' => ∃ s : ByteArray, e = .returned (.string s) ∧ s.size ≤ 20 ∧ Below W.heap.size W w') := fun W => by
    by_cases h10 : n < 10
    · exact (dec_small n W h10).mono fun e w' ⟨s, a, b, c⟩ => ⟨s, a, by omega, c⟩
    · obtain ⟨u, rfl⟩ : ∃ u : Nat, n = (u : Int) := ⟨n.toNat, by omega⟩
      exact (dec_nat 18 u W (by omega) (by omega) (by omega)).mono fun e w' ⟨s, a, b, c⟩ => ⟨s, a, by omega, c⟩
  go_enter Tryz.func43, Tryz.ntmps43
  go_wp2_with fail
  refine (HD.out _).mono ?_
  rintro e w' ⟨s, rfl, hs, hb⟩
  have HS := hid hs
  clear hs
  go_wp2
  go_ret
  exact ⟨s, rfl, HS.out, hb⟩
/-- A text in quotes: only its size is told. -/
theorem quote_sz (s : ByteArray) (w : World) (hs : s.size ≤ 1048576) :
    Calls Tryz.prog 52 #[.string s] w fun e w' => ∃ y : ByteArray, e = .returned (.string y) ∧ y.size ≤ 3 * s.size + 2 ∧ Below w.heap.size w w' := by
  refine (l1Quote_any s w (by omega)).mono ?_
  rintro e w' ⟨rfl, hb⟩
  refine ⟨_, rfl, ?_, hb⟩
  have := quoteL_len s.data.toList
  rw [len_size] at this
  show (quoteL s.data.toList).toArray.size ≤ _
  rw [List.size_toArray]
  omega
end Go.Proofs.YtlopcjhipajdcaaGreatDoor.Y
