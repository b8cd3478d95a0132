import Derived.Lib.LazyBuf
import Derived.Lib.Strings
import Derived.Lib.BufferRead
import Derived.Test.YtfndbnbnimhnaaaGreatDoorJ18
import Derived.Test.YtfndbnbnimhnaaaGreatDoorJ15
import Derived.Test.YtfndbnbnimhnaaaGreatDoorJ19
import Derived.Test.YtfndbnbnimhnaaaGreatDoorJ17
import Derived.Test.YtfndbnbnimhnaaaGreatDoorJ21
import Derived.Test.YtfndbnbnimhnaaaGreatDoorJ20
import Derived.Test.YtfndbnbnimhnaaaGreatDoorJ16
import Derived.Test.YtfndbnbnimhnaaaGreatDoorJ22
/-! What an instruction gives, in the model. -/
namespace Go.Proofs.YtfndbnbnimhnaaaGreatDoor.C
open Go.RowKit
set_option maxRecDepth 20000
theorem gives_any {fns : List Fn} {f : Fn} {i : In} {sl sk : List Int} {w : World} {cv pv iv av bv : Value} (h1 : FnsRow w cv fns) (h2 : IntRow w pv f.params) (h3 : InsRow w iv f.ins) (h4 : IntRow w av sl) (h5 : IntRow w bv sk) (hn : sk.length ≤ 1000) (hF : ∀ g ∈ fns, FnR fns g) (hi : InsR fns f i) (hsl : (sl.length : Int) = f.slots) (hr : ∀ x ∈ sk, 1 ≤ x ∧ x ≤ 10) :
    Calls Tryz.prog 91 #[.agg #[cv], .agg #[.string f.name, pv, .int .i64 f.result, .int .i64 f.slots, iv], inV i, .agg #[.int .i64 1, av, bv]] w (GvEnd fns f i sl sk w) := by
  obtain ⟨op, a, n, tx⟩ := i
  have hop := hi.op
  dsimp only at hop
  unfold inV
  dsimp only
  obtain rfl | rfl | rfl | rfl | rfl | rfl | rfl | rfl | rfl | rfl | rfl | rfl | rfl | rfl | rfl | rfl : op = 1 ∨ op = 2 ∨ op = 3 ∨ op = 4 ∨ op = 5 ∨ op = 6 ∨ op = 7 ∨ op = 8 ∨ op = 9 ∨ op = 10 ∨ op = 11 ∨ op = 12 ∨ op = 13 ∨ op = 14 ∨ op = 15 ∨ op = 16 := by omega
  · exact gives_1 fns f a n tx sl sk w cv pv iv av bv h1 h2 h3 h4 h5 hn
  · have h9 := hi.slot (.inl rfl)
    dsimp only at h9
    obtain ⟨m, rfl⟩ : ∃ m : Nat, a = m := ⟨a.toNat, by omega⟩
    exact gives_2 fns f m n tx sl sk w cv pv iv av bv h1 h2 h3 h4 h5 hn (by omega) (by omega)
  · exact gives_3 fns f a n tx sl sk w cv pv iv av bv h1 h2 h3 h4 h5 hn
  · exact gives_4 fns f a n tx sl sk w cv pv iv av bv h1 h2 h3 h4 h5 hn
  · exact gives_5 fns f a n tx sl sk w cv pv iv av bv h1 h2 h3 h4 h5 hn
  · have h9 := hi.bin rfl
    exact gives_6 fns f a h9.1 h9.2 n tx sl sk w cv pv iv av bv h1 h2 h3 h4 h5 hn
  · exact gives_7 fns f a n tx sl sk w cv pv iv av bv h1 h2 h3 h4 h5 hn
  · have h9 := hi.built rfl
    exact gives_8 fns f a h9.1 h9.2 n tx sl sk w cv pv iv av bv h1 h2 h3 h4 h5 hn hr
  · have h9 := hi.call rfl
    dsimp only at h9
    obtain ⟨m, rfl⟩ : ∃ m : Nat, a = m := ⟨a.toNat, by omega⟩
    have hm : m < fns.length := by omega
    have hg : fns.getD m fn0 ∈ fns := by rw [List.getD_eq_getElem?_getD, List.getElem?_eq_getElem hm]; exact List.getElem_mem hm
    exact gives_9 fns f m n tx sl sk w cv pv iv av bv h1 h2 h3 h4 h5 hn hm (by omega) (hF _ hg).few
  · exact gives_10 fns f a n tx sl sk w cv pv iv av bv h1 h2 h3 h4 h5 hn
  · exact gives_11 fns f a n tx sl sk w cv pv iv av bv h1 h2 h3 h4 h5 hn
  · have h9 := hi.ret rfl
    dsimp only at h9
    rcases h9 with ⟨rfl, _⟩ | ⟨rfl, _⟩
    · exact gives_12o fns f n tx sl sk w cv pv iv av bv h1 h2 h3 h4 h5 hn
    · exact gives_12z fns f n tx sl sk w cv pv iv av bv h1 h2 h3 h4 h5 hn
  · exact gives_13 fns f a n tx sl sk w cv pv iv av bv h1 h2 h3 h4 h5 hn
  · exact gives_14 fns f a n tx sl sk w cv pv iv av bv h1 h2 h3 h4 h5 hn
  · exact gives_15 fns f a n tx sl sk w cv pv iv av bv h1 h2 h3 h4 h5 hn
  · exact gives_16 fns f a n tx sl sk w cv pv iv av bv h1 h2 h3 h4 h5 hn
end Go.Proofs.YtfndbnbnimhnaaaGreatDoor.C
/-! millSameKinds. -/
namespace Go.Proofs.YtfndbnbnimhnaaaGreatDoor.C
open Go.RowKit
set_option maxRecDepth 20000
theorem z200 : Tryz.zeroCells239 = Array.replicate 200 (Value.int .u8 0) := by kernel_rfl
theorem size_u8 (w : World) : (Go.sizeOf 5).run Tryz.prog w = .ok 1 w := by kernel_rfl
/-- What lies in the room while the places below i are done. -/
def sk8 (a b : List Int) (i j : Nat) : Value := .int .u8 (if j < a.length then (if j < i then (slJoin a b).getD j 0 else a.getD j 0) else 0)
theorem room_start {a : List Int} (ha : Ok10 a) (_h200 : a.length ≤ 200) {W : World} {g : Nat} {t : TypeId} (h : W.rowIs g t 200 (fun _ => .int .u8 0)) (b : List Int) : (W.setCells g 0 ((kt a).data.toList.map fun x => Value.int .u8 (x.toNat : Int))).rowIs g t 200 (sk8 a b 0) := by
  refine (rowIs_setCells _ 0 W _ h).congr fun j hj => ?_
  unfold sk8
  rw [kt_data]
  simp only [Nat.zero_le, true_and, Nat.zero_add, List.length_map, Nat.sub_zero, Nat.not_lt_zero, if_false]
  by_cases hj2 : j < a.length
  · rw [if_pos hj2, if_pos hj2]
    rw [List.getElem?_map, List.getElem?_map, List.getElem?_eq_getElem hj2, List.getD_eq_getElem?_getD, List.getElem?_eq_getElem hj2]
    simp [kb_nat (ha _ (List.getElem_mem hj2))]
  · rw [if_neg hj2, if_neg hj2]
theorem room_same {a b : List Int} {j : Nat} {W : World} {g : Nat} {t : TypeId} (h : W.rowIs g t 200 (sk8 a b j)) (he : (slJoin a b).getD j 0 = a.getD j 0) {n : Nat} : (W.drewN n).rowIs g t 200 (sk8 a b (j + 1)) := by
  refine World.rowIs.of_block (h.congr fun q hq => ?_) rfl
  unfold sk8
  split
  · by_cases e : q = j
    · subst e; rw [if_neg (Nat.lt_irrefl q), if_pos (by omega), he]
    · by_cases hl : q < j
      · rw [if_pos hl, if_pos (by omega)]
      · rw [if_neg hl, if_neg (by omega)]
  · rfl
theorem room_put {a b : List Int} {j : Nat} {W : World} {g : Nat} {t : TypeId} (h : W.rowIs g t 200 (sk8 a b j)) (hj : j < a.length) (he : (slJoin a b).getD j 0 = 0) {n : Nat} : ((W.drewN n).setCell ⟨g, j, none⟩ (.int .u8 0)).rowIs g t 200 (sk8 a b (j + 1)) := by
  have h' : (W.drewN n).rowIs g t 200 (sk8 a b j) := h.of_block rfl
  refine (h'.set j (.int .u8 0)).congr fun q hq => ?_
  unfold sk8
  by_cases e : q = j
  · subst e; rw [if_pos rfl, if_pos hj, if_pos (by omega), he]
  · rw [if_neg e]
    split
    · by_cases hl : q < j
      · rw [if_pos hl, if_pos (by omega)]
      · rw [if_neg hl, if_neg (by omega)]
    · rfl
theorem slJoin_ok {a b : List Int} (ha : Ok10 a) (hl : a.length = b.length) : Ok10 (slJoin a b) := by
  intro x hx
  obtain ⟨i, hi, rfl⟩ := List.getElem_of_mem hx
  have hi2 : i < a.length := by rw [← slJoin_length a b hl]; exact hi
  have e := slJoin_get a b hl i hi2
  rw [List.getD_eq_getElem?_getD, List.getElem?_eq_getElem hi, Option.getD_some] at e
  rw [e]
  split
  · rw [List.getD_eq_getElem?_getD, List.getElem?_eq_getElem hi2]
    exact ha _ (List.getElem_mem hi2)
  · omega
theorem str_eq2 {a b : ByteArray} : (a.toList == b.toList) = true ↔ a = b := by
  rw [Lib.toList_data, Lib.toList_data, beq_iff_eq]
  exact ⟨ba_ext, fun h => by rw [h]⟩
set_option maxHeartbeats 2000000 in
theorem sameKinds_any {a b : List Int} (ha : Ok10 a) (hb : Ok10 b) (hl : a.length = b.length) (h200 : a.length ≤ 200) (w : World) :
    Calls Tryz.prog 143 #[.string (kt a), .string (kt b)] w fun e w' => e = .returned (.string (kt (slJoin a b))) ∧ Below w.heap.size w w' := by
  have HA := hid ha
  have HB := hid hb
  have HL := hid hl
  have hsa := kt_size a
  have hsb : (kt b).size = a.length := by rw [kt_size]; omega
  have HSA := hid hsa
  have HSB := hid hsb
  clear ha hb hl
  go_enter Tryz.func143, Tryz.ntmps143
  go_upto_region 2 with fail
  have hrow : (w.alloc (.cells Tryz.zeroCells239 239)).rowIs w.heap.size 239 200 (fun _ => .int .u8 0) := ⟨_, heap_alloc_new _ _, by rw [z200]; simp, fun i hi => by rw [z200]; simp [hi]⟩
  have HLO := hid ((Below.refl w.heap.size w).alloc (Nat.le_refl _) (.cells Tryz.zeroCells239 239))
  obtain ⟨W1, hW1⟩ : ∃ W, w.alloc (.cells Tryz.zeroCells239 239) = W := ⟨_, rfl⟩
  rw [hW1] at hrow HLO ⊢
  clear hW1
  have HROW := hid hrow
  clear hrow
  have hcp : (Builtin.copy_ #[39, 9] 3 #[.slice (some ⟨w.heap.size, 0, none⟩) 200 200, .string (kt a)]).run Tryz.prog W1 = .ok (.int .i64 (a.length : Nat)) (W1.setCells w.heap.size 0 ((kt a).data.toList.map fun x => Value.int .u8 (x.toNat : Int))) := by
    have := run_copy_string (P := Tryz.prog) W1 39 9 3 5 w.heap.size 0 200 200 (kt a) Tryz.underlying39 size_u8 (by omega) (fun j hj => by rw [Nat.zero_add, HROW.out.cell (by omega)]; rfl) (fun j hj => HROW.out.frozen _)
    rw [HSA.out] at this
    exact this
  have HR2 := hid (room_start HA.out h200 HROW.out b)
  have HLO2 := hid (below_setCells (Nat.le_refl _) ((kt a).data.toList.map fun x => Value.int .u8 (x.toNat : Int)) 0 W1 HLO.out)
  obtain ⟨W2, hW2⟩ : ∃ W, W1.setCells w.heap.size 0 ((kt a).data.toList.map fun x => Value.int .u8 (x.toNat : Int)) = W := ⟨_, rfl⟩
  rw [hW2] at hcp HR2 HLO2
  clear hW2
  have hai : (a.length : Int) ≤ 200 := by omega
  go_wp2_with fail
  clear hcp
  go_loopw [14] (fun i wr => ∃ j : Nat, j ≤ a.length ∧ i = .int .i64 j ∧ Below w.heap.size w wr ∧ wr.rowIs w.heap.size 239 200 (sk8 a b j)) (fun i _ => a.length - (intOf i).toNat)
  case atStart => exact ⟨0, Nat.zero_le _, rfl, HLO2.out, HR2.out⟩
  case round =>
    obtain ⟨j, hj, rfl, hlo, hrow⟩ := hrel
    have HLO3 := hid hlo
    have HR3 := hid hrow
    clear hlo hrow HR2 HLO2
    by_cases hlt : j < a.length
    · have hlti : (j : Int) < (a.length : Int) := by omega
      have hlt2 : j < (kt b).size := by omega
      have hlt3 : (j : Int) < ((kt b).size : Int) := by omega
      have kA := HR3.out.cell (show j < 200 by omega)
      have kF := HR3.out.frozen j
      have hyv := kt_get HB.out hlt2
      have HT0 := hid (slJoin_get a b HL.out j hlt)
      unfold sk8 at kA
      rw [if_pos hlt, if_neg (Nat.lt_irrefl j)] at kA
      obtain ⟨x, hx⟩ : ∃ x, a.getD j 0 = x := ⟨_, rfl⟩
      obtain ⟨y, hy⟩ : ∃ y, b.getD j 0 = y := ⟨_, rfl⟩
      rw [hx] at kA HT0
      rw [hy] at hyv HT0
      have HX := hid hx
      clear hx hy
      by_cases hxy : x = y
      · have hxf : (x != y) = false := by simpa using hxy
        have HN := hid (fun n : Nat => room_same (n := n) (b := b) (j := j) HR3.out (by rw [HT0.out, if_pos hxy, HX.out]))
        clear hxy
        go_wp2_with fail
        go_quiet (fail)
        go_wp2
        go_roundw
        case rel => exact ⟨j + 1, by omega, by go_num, below_drewN HLO3.out _, HN.out _⟩
        case measure => simp [intOf]; omega
      · have hxf : (x != y) = true := by simpa using hxy
        have HN := hid (fun n : Nat => room_put (n := n) (b := b) (j := j) HR3.out hlt (by rw [HT0.out, if_neg hxy]))
        clear hxy
        go_wp2_with fail
        go_quiet (fail)
        go_wp2
        go_roundw
        case rel => exact ⟨j + 1, by omega, by go_num, set_lo (below_drewN HLO3.out _) _ _ (Nat.le_refl _) _, HN.out _⟩
        case measure => simp [intOf]; omega
    · obtain rfl : j = a.length := by omega
      have hge : ¬ ((a.length : Int) < (a.length : Int)) := by omega
      have hcv : (convert 39 9 (.slice (some ⟨w.heap.size, 0, none⟩) a.length 200)).run Tryz.prog wr = .ok (.string (kt (slJoin a b))) wr := by
        have hll : ((slJoin a b).map kb).length = a.length := by rw [List.length_map, slJoin_length _ _ HL.out]
        have := run_convert_bytes_back (P := Tryz.prog) wr 39 9 5 ⟨w.heap.size, 0, none⟩ 200 ((slJoin a b).map kb) Tryz.underlying39 Tryz.underlying5 Tryz.underlying9 (fun k hk => by
          rw [hll] at hk
          have ea : (⟨w.heap.size, 0, none⟩ : Addr).add k = ⟨w.heap.size, k, none⟩ := by
            by_cases hk0 : k = 0
            · subst hk0; simp [Addr.add]
            · simp [Addr.add, hk0]
          rw [ea, HR3.out.cell (show k < 200 by omega)]
          unfold sk8
          rw [if_pos hk, if_pos hk]
          have hk2 : k < (slJoin a b).length := by rw [slJoin_length _ _ HL.out]; exact hk
          rw [List.getD_eq_getElem?_getD, List.getElem?_eq_getElem hk2]
          simp [kb_nat (slJoin_ok HA.out HL.out _ (List.getElem_mem hk2))])
        rw [hll] at this
        exact this
      by_cases he : kt (slJoin a b) = kt b
      · have hef : ((kt (slJoin a b)).toList == (kt b).toList) = true := str_eq2.2 he
        have HE := hid he
        clear he
        go_wp2_with fail
        go_ret
        exact ⟨by rw [HE.out]; rfl, HLO3.out⟩
      · have hef : ((kt (slJoin a b)).toList == (kt b).toList) = false := Bool.eq_false_iff.2 fun h => he (str_eq2.1 h)
        clear he
        go_wp2_with fail
        go_ret
        exact ⟨rfl, HLO3.out⟩
end Go.Proofs.YtfndbnbnimhnaaaGreatDoor.C
/-! Where two shapes come together, in the model. -/
namespace Go.Proofs.YtfndbnbnimhnaaaGreatDoor.C
open Go.RowKit
theorem ok_known {S : Nat} {a : Sh} (h : OkSh S a) (h1 : a.st = 1) : a.sl.length = S ∧ (∀ x ∈ a.sl, 0 ≤ x ∧ x ≤ 10) ∧ (∀ x ∈ a.sk, 1 ≤ x ∧ x ≤ 10) ∧ a.sk.length ≤ 600 := by
  rcases h with rfl | rfl | ⟨_, h⟩
  · simp [bot] at h1
  · simp [top] at h1
  · exact h
theorem ok_st {S : Nat} {a : Sh} (h : OkSh S a) : a.st = 0 ∨ a.st = 1 ∨ a.st = 2 := by
  rcases h with rfl | rfl | ⟨h, _⟩
  · exact .inl rfl
  · exact .inr (.inr rfl)
  · exact .inr (.inl h)
theorem join_any {S : Nat} {a b : Sh} (ha : OkSh S a) (hb : OkSh S b) (h0 : ¬ b.st = 0) (hS : S ≤ 200) {w : World} {av bv : Value} (h4 : ShV w av a) (h5 : ShV w bv b) : Calls Tryz.prog 90 #[av, bv] w (JoinEnd a b w) := by
  obtain ⟨x, y, rfl, r1, r2⟩ := h4
  obtain ⟨x', y', rfl, r3, r4⟩ := h5
  rcases ok_st ha with h | h | h
  · exact join_second0 h0 h w x y x' y' r1 r2 r3 r4
  · rcases ok_st hb with k | k | k
    · exact absurd k h0
    · have p := ok_known ha h
      have q := ok_known hb k
      exact join_known h k (p.1.trans q.1.symm) (by omega) (by omega) w x y x' y' r1 r2 r3 r4
    · exact join_second1 hb k h w x y x' y' r1 r2 r3 r4
  · exact join_first ha h0 h w x y x' y' r1 r2 r3 r4
end Go.Proofs.YtfndbnbnimhnaaaGreatDoor.C
