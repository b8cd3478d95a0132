import Derived.ProofKit
import Derived.Deep.Slices
import Derived.Deep.DeepCutAuto
import Derived.Test.YtlopcjhipajdcaaGreatDoorJ08
import Derived.Test.YtlopcjhipajdcaaGreatDoorJ10
/-! Sameness. -/
namespace Go.Proofs.YtlopcjhipajdcaaGreatDoor.R
open Go.RowKit
set_option maxRecDepth 20000
set_option maxHeartbeats 4000000 in
theorem eqSStr_same (l : List ByteArray) {u v : Value} {B : Nat} (w : World) (hx : LoStrS l) (k0 : SStrR B w u l) (l0 : SStrR B w v l) :
    Calls Tryz.prog 67 #[u, v] w fun e w' => e = .returned (.bool true) ∧ Below w.heap.size w w' := by
  have H1 := hid k0
  have H2 := hid l0
  have HX := hid hx
  have hN : l.length ≤ 1048576 := hx
  obtain ⟨gu, rfl⟩ := k0.sl
  obtain ⟨gv, rfl⟩ := l0.sl
  clear k0 l0 hx
  have hne : ((l.length : Int) != (l.length : Int)) = false := by simp
  go_enter Tryz.func67, Tryz.ntmps67
  go_wp2
  go_loopw [5] (fun i wr => ∃ j : Nat, j ≤ l.length ∧ i = .int .i64 j ∧ Below w.heap.size w wr) (fun i _ => l.length - (intOf i).toNat)
  case atStart => exact ⟨0, Nat.zero_le _, rfl, Below.refl _ _⟩
  case round =>
    obtain ⟨j, hj, rfl, hbw⟩ := hrel
    have HBW := hid hbw
    clear hbw
    by_cases hlt : j < l.length
    · obtain ⟨g, e9, _, _, a0⟩ := (H1.out.next HBW.out).at hlt
      injection e9 with ea en ec
      injection ea with eb
      injection eb with ec2
      subst ec2
      obtain ⟨g2, e8, _, _, b0⟩ := (H2.out.next HBW.out).at hlt
      injection e8 with ea2 en2 ec3
      injection ea2 with eb2
      injection eb2 with ec4
      subst ec4
      clear en ec en2 ec3
      obtain ⟨x, hx⟩ : ∃ x, l.getD j ⟨#[]⟩ = x := ⟨_, rfl⟩
      rw [hx] at a0 b0
      clear hx
      have h5 : (x.toList != x.toList) = false := by simp
      go_wp2_with fail
      go_quiet (fail)
      go_wp2
      go_roundw
      case rel => exact ⟨j + 1, by omega, by go_num, below_drewN HBW.out nq⟩
      case measure => simp [intOf]; omega
    · obtain rfl : j = l.length := by omega
      go_wp2
      go_ret
      exact ⟨rfl, HBW.out⟩
end Go.Proofs.YtlopcjhipajdcaaGreatDoor.R
/-! What came in. -/
namespace Go.Proofs.YtlopcjhipajdcaaGreatDoor.R
open Go.RowKit
set_option maxRecDepth 20000
open Go.ChangeShapes Go.WideShapes Go.ChangeAt Go.Deep
theorem bounds {x : Int} (h : (Lit.int .i64 x).wf = true) : -9223372036854775808 ≤ x ∧ x ≤ 9223372036854775807 := by
  simpa [Lit.wf, IntKind.min, IntKind.max, IntKind.signed, IntKind.bits] using h
theorem cellsString : Tryz.prog.cellsOf 9 = 1 := by kernel_rfl
theorem cellsInt : Tryz.prog.cellsOf 3 = 1 := by kernel_rfl
theorem cellsStr : Tryz.prog.cellsOf 9 = 1 := by kernel_rfl
theorem cellsBool : Tryz.prog.cellsOf 4 = 1 := by kernel_rfl
theorem cellsSStr : Tryz.prog.cellsOf 22 = 1 := by kernel_rfl
theorem SStr_open {H : Type} {enc : TypeId × Value → H} {W : World} {base : Nat} {spare : Nat → Bool} {held : Bool} {n : Nat} {v : Value} {z : DataW H × List MemPlace} (f0 : DataW.trod enc Tryz.prog W base spare held n 22 [v] = some z) :
    ∃ l : List ByteArray, SStrA W v l ∧ OkStrS l := by
  rcases open_slice Tryz.underlying22 f0 with ⟨e, _⟩ | ⟨a, len, cap, m, n2, D, Pl, e, hb, hlc, hcm, hm, _, hel⟩
  · exact ⟨[], ⟨none, 0, by simpa using e, .inl rfl⟩, ⟨Nat.zero_le _, fun i h => absurd h (Nat.not_lt_zero _)⟩⟩
  · have hall : ∀ i, ∃ x : ByteArray, i < len → (StrA W (a.add i) x) ∧ x.size ≤ maxLen ∧ a.block < W.heap.size := fun i => by
      by_cases hi : i < len
      · have hm2 : len ≤ m := by rw [hm]; split <;> omega
        obtain ⟨cs', hc, ht⟩ := hel i (by omega)
        rw [cellsString, Nat.mul_one] at hc
        obtain ⟨x, e0, _, hx⟩ := DataW.trod_string Tryz.underlying9 ht
        subst e0
        refine ⟨x, fun _ => ?_⟩
        have hbl := World.cells?_block hc (by omega)
        rw [add_block] at hbl
        obtain ⟨_, _, hg⟩ := World.cells?_some hc
        exact ⟨(by have := hg 0 (by omega); simpa [Addr.add, StrA] using this), hx, hbl⟩
      · exact ⟨⟨#[]⟩, fun h => absurd h hi⟩
    obtain ⟨f, hnd⟩ := Classical.skolem.1 hall
    have hget : ∀ i, i < len → ((List.range len).map f).getD i ⟨#[]⟩ = f i := fun i hi => by simp [List.getD_eq_getElem?_getD, hi]
    have hlen : ((List.range len).map f).length = len := by simp
    refine ⟨(List.range len).map f, ⟨some a, cap, by rw [hlen]; simpa using e, ?_⟩, ?_⟩
    · by_cases h0 : len = 0
      · subst h0; exact .inl rfl
      · refine .inr ⟨a, rfl, (hnd 0 (by omega)).2.2, fun i hi => ?_⟩
        rw [hlen] at hi
        rw [hget i hi]
        exact (hnd i hi).1
    · refine ⟨by rw [hlen]; omega, fun i hi => ?_⟩
      rw [hlen] at hi
      rw [hget i hi]
      exact (hnd i hi).2.1
theorem cellsTg : Tryz.prog.cellsOf 24 = 5 := by kernel_rfl
theorem Tg_open {H : Type} {enc : TypeId × Value → H} {W : World} {base : Nat} {spare : Nat → Bool} {held : Bool} {n : Nat} {cs : List Value} {z : DataW H × List MemPlace} (h : DataW.trod enc Tryz.prog W base spare held n 24 cs = some z) :
    ∃ (x : Tg) (v0 : Value) (v1 : Value), cs = [.string x.name, .string x.tool, .string x.arg, v0, v1] ∧ SStrA W v0 x.ins ∧ SStrA W v1 x.outs ∧ OkTg x := by
  obtain ⟨xs, m, _, _, hl, hlen, hf⟩ := DataW.trod_struct Tryz.underlying24 h
  rw [cellsTg] at hl
  match cs, hl with
  | [c0, c1, c2, c3, c4], _ =>
    match xs, hlen with
    | [y0, y1, y2, y3, y4], _ =>
      have f0 := hf 0 _ rfl
      simp [cellsStr] at f0
      obtain ⟨x0, e0, _, h0⟩ := DataW.trod_string Tryz.underlying9 f0
      cases e0
      have f1 := hf 1 _ rfl
      simp [cellsStr] at f1
      obtain ⟨x1, e1, _, h1⟩ := DataW.trod_string Tryz.underlying9 f1
      cases e1
      have f2 := hf 2 _ rfl
      simp [cellsStr] at f2
      obtain ⟨x2, e2, _, h2⟩ := DataW.trod_string Tryz.underlying9 f2
      cases e2
      have f3 := hf 3 _ rfl
      simp [cellsSStr] at f3
      obtain ⟨x3, r3, h3⟩ := SStr_open f3
      have f4 := hf 4 _ rfl
      simp [cellsSStr] at f4
      obtain ⟨x4, r4, h4⟩ := SStr_open f4
      exact ⟨⟨x0, x1, x2, x3, x4⟩, c3, c4, rfl, r3, r4, ⟨h0, h1, h2, h3, h4⟩⟩
theorem cellsRy : Tryz.prog.cellsOf 91 = 2 := by kernel_rfl
theorem Ry_open {H : Type} {enc : TypeId × Value → H} {W : World} {base : Nat} {spare : Nat → Bool} {held : Bool} {n : Nat} {cs : List Value} {z : DataW H × List MemPlace} (h : DataW.trod enc Tryz.prog W base spare held n 91 cs = some z) :
    ∃ (x : Ry), cs = [.int .i64 x.code, .string x.text] ∧ OkRy x := by
  obtain ⟨xs, m, _, _, hl, hlen, hf⟩ := DataW.trod_struct Tryz.underlying91 h
  rw [cellsRy] at hl
  match cs, hl with
  | [c0, c1], _ =>
    match xs, hlen with
    | [y0, y1], _ =>
      have f0 := hf 0 _ rfl
      simp [cellsInt] at f0
      obtain ⟨x0, e0, _, h0⟩ := DataW.trod_int Tryz.underlying3 f0
      cases e0
      have f1 := hf 1 _ rfl
      simp [cellsStr] at f1
      obtain ⟨x1, e1, _, h1⟩ := DataW.trod_string Tryz.underlying9 f1
      cases e1
      exact ⟨⟨x0, x1⟩, rfl, ⟨(bounds h0), h1⟩⟩
theorem cellsSn : Tryz.prog.cellsOf 93 = 4 := by kernel_rfl
theorem Sn_open {H : Type} {enc : TypeId × Value → H} {W : World} {base : Nat} {spare : Nat → Bool} {held : Bool} {n : Nat} {cs : List Value} {z : DataW H × List MemPlace} (h : DataW.trod enc Tryz.prog W base spare held n 93 cs = some z) :
    ∃ (x : Sn), cs = [.int .i64 x.kind, .string x.name, .int .i64 x.reply.code, .string x.reply.text] ∧ OkSn x := by
  obtain ⟨xs, m, _, _, hl, hlen, hf⟩ := DataW.trod_struct Tryz.underlying93 h
  rw [cellsSn] at hl
  match cs, hl with
  | [c0, c1, c2, c3], _ =>
    match xs, hlen with
    | [y0, y1, y2], _ =>
      have f0 := hf 0 _ rfl
      simp [cellsInt] at f0
      obtain ⟨x0, e0, _, h0⟩ := DataW.trod_int Tryz.underlying3 f0
      cases e0
      have f1 := hf 1 _ rfl
      simp [cellsStr] at f1
      obtain ⟨x1, e1, _, h1⟩ := DataW.trod_string Tryz.underlying9 f1
      cases e1
      have f2 := hf 2 _ rfl
      simp [cellsRy] at f2
      obtain ⟨x2, e2, h2⟩ := Ry_open f2
      simp only [List.cons.injEq, and_true] at e2
      obtain ⟨rfl, rfl⟩ := e2
      exact ⟨⟨x0, x1, x2⟩, rfl, ⟨(bounds h0), h1, h2⟩⟩
theorem cellsSSn : Tryz.prog.cellsOf 25 = 1 := by kernel_rfl
theorem SSn_open {H : Type} {enc : TypeId × Value → H} {W : World} {base : Nat} {spare : Nat → Bool} {held : Bool} {n : Nat} {v : Value} {z : DataW H × List MemPlace} (f0 : DataW.trod enc Tryz.prog W base spare held n 25 [v] = some z) :
    ∃ l : List Sn, SSnA W v l ∧ OkSnS l := by
  rcases open_slice Tryz.underlying25 f0 with ⟨e, _⟩ | ⟨a, len, cap, m, n2, D, Pl, e, hb, hlc, hcm, hm, _, hel⟩
  · exact ⟨[], ⟨none, 0, by simpa using e, .inl rfl⟩, ⟨Nat.zero_le _, fun i h => absurd h (Nat.not_lt_zero _)⟩⟩
  · have hall : ∀ i, ∃ x : Sn, i < len → (SnA W (a.add (i * 4)) x) ∧ OkSn x ∧ a.block < W.heap.size := fun i => by
      by_cases hi : i < len
      · have hm2 : len ≤ m := by rw [hm]; split <;> omega
        obtain ⟨cs', hc, ht⟩ := hel i (by omega)
        rw [cellsSn] at hc
        obtain ⟨x, rfl, hx⟩ := Sn_open ht
        refine ⟨x, fun _ => ?_⟩
        have hbl := World.cells?_block hc (by omega)
        rw [add_block] at hbl
        obtain ⟨_, _, hg⟩ := World.cells?_some hc
        exact ⟨⟨(by have := hg 0 (by omega); simpa [Addr.add] using this), (by have := hg 1 (by omega); rw [add_one _ 1 (by decide)] at this; simpa using this), (by have := hg 2 (by omega); rw [add_one _ 2 (by decide)] at this; simpa using this), (by have := hg 3 (by omega); rw [add_one _ 3 (by decide)] at this; simpa using this)⟩, hx, hbl⟩
      · exact ⟨sn0, fun h => absurd h hi⟩
    obtain ⟨f, hnd⟩ := Classical.skolem.1 hall
    have hget : ∀ i, i < len → ((List.range len).map f).getD i sn0 = f i := fun i hi => by simp [List.getD_eq_getElem?_getD, hi]
    have hlen : ((List.range len).map f).length = len := by simp
    refine ⟨(List.range len).map f, ⟨some a, cap, by rw [hlen]; simpa using e, ?_⟩, ?_⟩
    · by_cases h0 : len = 0
      · subst h0; exact .inl rfl
      · refine .inr ⟨a, rfl, (hnd 0 (by omega)).2.2, fun i hi => ?_⟩
        rw [hlen] at hi
        rw [hget i hi]
        exact (hnd i hi).1
    · refine ⟨by rw [hlen]; omega, fun i hi => ?_⟩
      rw [hlen] at hi
      rw [hget i hi]
      exact (hnd i hi).2.1
theorem cellsFl : Tryz.prog.cellsOf 124 = 2 := by kernel_rfl
theorem Fl_open {H : Type} {enc : TypeId × Value → H} {W : World} {base : Nat} {spare : Nat → Bool} {held : Bool} {n : Nat} {cs : List Value} {z : DataW H × List MemPlace} (h : DataW.trod enc Tryz.prog W base spare held n 124 cs = some z) :
    ∃ (x : Fl), cs = [.string x.name, .string x.text] ∧ OkFl x := by
  obtain ⟨xs, m, _, _, hl, hlen, hf⟩ := DataW.trod_struct Tryz.underlying124 h
  rw [cellsFl] at hl
  match cs, hl with
  | [c0, c1], _ =>
    match xs, hlen with
    | [y0, y1], _ =>
      have f0 := hf 0 _ rfl
      simp [cellsStr] at f0
      obtain ⟨x0, e0, _, h0⟩ := DataW.trod_string Tryz.underlying9 f0
      cases e0
      have f1 := hf 1 _ rfl
      simp [cellsStr] at f1
      obtain ⟨x1, e1, _, h1⟩ := DataW.trod_string Tryz.underlying9 f1
      cases e1
      exact ⟨⟨x0, x1⟩, rfl, ⟨h0, h1⟩⟩
theorem cellsSFl : Tryz.prog.cellsOf 26 = 1 := by kernel_rfl
theorem SFl_open {H : Type} {enc : TypeId × Value → H} {W : World} {base : Nat} {spare : Nat → Bool} {held : Bool} {n : Nat} {v : Value} {z : DataW H × List MemPlace} (f0 : DataW.trod enc Tryz.prog W base spare held n 26 [v] = some z) :
    ∃ l : List Fl, SFlA W v l ∧ OkFlS l := by
  rcases open_slice Tryz.underlying26 f0 with ⟨e, _⟩ | ⟨a, len, cap, m, n2, D, Pl, e, hb, hlc, hcm, hm, _, hel⟩
  · exact ⟨[], ⟨none, 0, by simpa using e, .inl rfl⟩, ⟨Nat.zero_le _, fun i h => absurd h (Nat.not_lt_zero _)⟩⟩
  · have hall : ∀ i, ∃ x : Fl, i < len → (FlA W (a.add (i * 2)) x) ∧ OkFl x ∧ a.block < W.heap.size := fun i => by
      by_cases hi : i < len
      · have hm2 : len ≤ m := by rw [hm]; split <;> omega
        obtain ⟨cs', hc, ht⟩ := hel i (by omega)
        rw [cellsFl] at hc
        obtain ⟨x, rfl, hx⟩ := Fl_open ht
        refine ⟨x, fun _ => ?_⟩
        have hbl := World.cells?_block hc (by omega)
        rw [add_block] at hbl
        obtain ⟨_, _, hg⟩ := World.cells?_some hc
        exact ⟨⟨(by have := hg 0 (by omega); simpa [Addr.add] using this), (by have := hg 1 (by omega); rw [add_one _ 1 (by decide)] at this; simpa using this)⟩, hx, hbl⟩
      · exact ⟨fl0, fun h => absurd h hi⟩
    obtain ⟨f, hnd⟩ := Classical.skolem.1 hall
    have hget : ∀ i, i < len → ((List.range len).map f).getD i fl0 = f i := fun i hi => by simp [List.getD_eq_getElem?_getD, hi]
    have hlen : ((List.range len).map f).length = len := by simp
    refine ⟨(List.range len).map f, ⟨some a, cap, by rw [hlen]; simpa using e, ?_⟩, ?_⟩
    · by_cases h0 : len = 0
      · subst h0; exact .inl rfl
      · refine .inr ⟨a, rfl, (hnd 0 (by omega)).2.2, fun i hi => ?_⟩
        rw [hlen] at hi
        rw [hget i hi]
        exact (hnd i hi).1
    · refine ⟨by rw [hlen]; omega, fun i hi => ?_⟩
      rw [hlen] at hi
      rw [hget i hi]
      exact (hnd i hi).2.1
theorem cellsTu : Tryz.prog.cellsOf 28 = 8 := by kernel_rfl
theorem Tu_open {H : Type} {enc : TypeId × Value → H} {W : World} {base : Nat} {spare : Nat → Bool} {held : Bool} {n : Nat} {cs : List Value} {z : DataW H × List MemPlace} (h : DataW.trod enc Tryz.prog W base spare held n 28 cs = some z) :
    ∃ (x : Tu) (v0 : Value) (v1 : Value), cs = [.bool x.over, .int .i64 x.code, .string x.text, .int .i64 x.kind, .string x.name, .int .i64 x.steps, v0, v1] ∧ SFlA W v0 x.files ∧ SStrA W v1 x.said ∧ OkTu x := by
  obtain ⟨xs, m, _, _, hl, hlen, hf⟩ := DataW.trod_struct Tryz.underlying28 h
  rw [cellsTu] at hl
  match cs, hl with
  | [c0, c1, c2, c3, c4, c5, c6, c7], _ =>
    match xs, hlen with
    | [y0, y1, y2, y3, y4, y5, y6, y7], _ =>
      have f0 := hf 0 _ rfl
      simp [cellsBool] at f0
      obtain ⟨x0, e0, _⟩ := DataW.trod_bool Tryz.underlying4 f0
      cases e0
      have f1 := hf 1 _ rfl
      simp [cellsInt] at f1
      obtain ⟨x1, e1, _, h1⟩ := DataW.trod_int Tryz.underlying3 f1
      cases e1
      have f2 := hf 2 _ rfl
      simp [cellsStr] at f2
      obtain ⟨x2, e2, _, h2⟩ := DataW.trod_string Tryz.underlying9 f2
      cases e2
      have f3 := hf 3 _ rfl
      simp [cellsInt] at f3
      obtain ⟨x3, e3, _, h3⟩ := DataW.trod_int Tryz.underlying3 f3
      cases e3
      have f4 := hf 4 _ rfl
      simp [cellsStr] at f4
      obtain ⟨x4, e4, _, h4⟩ := DataW.trod_string Tryz.underlying9 f4
      cases e4
      have f5 := hf 5 _ rfl
      simp [cellsInt] at f5
      obtain ⟨x5, e5, _, h5⟩ := DataW.trod_int Tryz.underlying3 f5
      cases e5
      have f6 := hf 6 _ rfl
      simp [cellsSFl] at f6
      obtain ⟨x6, r6, h6⟩ := SFl_open f6
      have f7 := hf 7 _ rfl
      simp [cellsSStr] at f7
      obtain ⟨x7, r7, h7⟩ := SStr_open f7
      exact ⟨⟨x0, x1, x2, x3, x4, x5, x6, x7⟩, c6, c7, rfl, r6, r7, ⟨rfl, (bounds h1), h2, (bounds h3), h4, (bounds h5), h6, h7⟩⟩
theorem cellsMs : Tryz.prog.cellsOf 30 = 20 := by kernel_rfl
theorem Ms_open {H : Type} {enc : TypeId × Value → H} {W : World} {base : Nat} {spare : Nat → Bool} {held : Bool} {n : Nat} {cs : List Value} {z : DataW H × List MemPlace} (h : DataW.trod enc Tryz.prog W base spare held n 30 cs = some z) :
    ∃ (x : Ms) (v0 : Value) (v1 : Value) (v2 : Value) (v3 : Value) (v4 : Value), cs = [.int .i64 x.kind, .int .i64 x.to, .int .i64 x.sender, .int .i64 x.epoch, .int .i64 x.edit, .string x.target.name, .string x.target.tool, .string x.target.arg, v0, v1, v2, .int .i64 x.count, .bool x.turn.over, .int .i64 x.turn.code, .string x.turn.text, .int .i64 x.turn.kind, .string x.turn.name, .int .i64 x.turn.steps, v3, v4] ∧ SStrA W v0 x.target.ins ∧ SStrA W v1 x.target.outs ∧ SSnA W v2 x.seen ∧ SFlA W v3 x.turn.files ∧ SStrA W v4 x.turn.said ∧ OkMs x := by
  obtain ⟨xs, m, _, _, hl, hlen, hf⟩ := DataW.trod_struct Tryz.underlying30 h
  rw [cellsMs] at hl
  match cs, hl with
  | [c0, c1, c2, c3, c4, c5, c6, c7, c8, c9, c10, c11, c12, c13, c14, c15, c16, c17, c18, c19], _ =>
    match xs, hlen with
    | [y0, y1, y2, y3, y4, y5, y6, y7, y8], _ =>
      have f0 := hf 0 _ rfl
      simp [cellsInt] at f0
      obtain ⟨x0, e0, _, h0⟩ := DataW.trod_int Tryz.underlying3 f0
      cases e0
      have f1 := hf 1 _ rfl
      simp [cellsInt] at f1
      obtain ⟨x1, e1, _, h1⟩ := DataW.trod_int Tryz.underlying3 f1
      cases e1
      have f2 := hf 2 _ rfl
      simp [cellsInt] at f2
      obtain ⟨x2, e2, _, h2⟩ := DataW.trod_int Tryz.underlying3 f2
      cases e2
      have f3 := hf 3 _ rfl
      simp [cellsInt] at f3
      obtain ⟨x3, e3, _, h3⟩ := DataW.trod_int Tryz.underlying3 f3
      cases e3
      have f4 := hf 4 _ rfl
      simp [cellsInt] at f4
      obtain ⟨x4, e4, _, h4⟩ := DataW.trod_int Tryz.underlying3 f4
      cases e4
      have f5 := hf 5 _ rfl
      simp [cellsTg] at f5
      obtain ⟨x5, v5_0, v5_1, e5, r5_0, r5_1, h5⟩ := Tg_open f5
      simp only [List.cons.injEq, and_true] at e5
      obtain ⟨rfl, rfl, rfl, rfl, rfl⟩ := e5
      have f6 := hf 6 _ rfl
      simp [cellsSSn] at f6
      obtain ⟨x6, r6, h6⟩ := SSn_open f6
      have f7 := hf 7 _ rfl
      simp [cellsInt] at f7
      obtain ⟨x7, e7, _, h7⟩ := DataW.trod_int Tryz.underlying3 f7
      cases e7
      have f8 := hf 8 _ rfl
      simp [cellsTu] at f8
      obtain ⟨x8, v8_0, v8_1, e8, r8_0, r8_1, h8⟩ := Tu_open f8
      simp only [List.cons.injEq, and_true] at e8
      obtain ⟨rfl, rfl, rfl, rfl, rfl, rfl, rfl, rfl⟩ := e8
      exact ⟨⟨x0, x1, x2, x3, x4, x5, x6, x7, x8⟩, _, _, c10, _, _, rfl, r5_0, r5_1, r6, r8_0, r8_1, ⟨(bounds h0), (bounds h1), (bounds h2), (bounds h3), (bounds h4), h5, h6, (bounds h7), h8⟩⟩
theorem cellsWk : Tryz.prog.cellsOf 32 = 23 := by kernel_rfl
theorem Wk_open {H : Type} {enc : TypeId × Value → H} {W : World} {base : Nat} {spare : Nat → Bool} {held : Bool} {n : Nat} {cs : List Value} {z : DataW H × List MemPlace} (h : DataW.trod enc Tryz.prog W base spare held n 32 cs = some z) :
    ∃ (x : Wk) (v0 : Value) (v1 : Value) (v2 : Value) (v3 : Value) (v4 : Value), cs = [.int .i64 x.number, .bool x.up, .bool x.has, .int .i64 x.offer.kind, .int .i64 x.offer.to, .int .i64 x.offer.sender, .int .i64 x.offer.epoch, .int .i64 x.offer.edit, .string x.offer.target.name, .string x.offer.target.tool, .string x.offer.target.arg, v0, v1, v2, .int .i64 x.offer.count, .bool x.offer.turn.over, .int .i64 x.offer.turn.code, .string x.offer.turn.text, .int .i64 x.offer.turn.kind, .string x.offer.turn.name, .int .i64 x.offer.turn.steps, v3, v4] ∧ SStrA W v0 x.offer.target.ins ∧ SStrA W v1 x.offer.target.outs ∧ SSnA W v2 x.offer.seen ∧ SFlA W v3 x.offer.turn.files ∧ SStrA W v4 x.offer.turn.said ∧ OkWk x := by
  obtain ⟨xs, m, _, _, hl, hlen, hf⟩ := DataW.trod_struct Tryz.underlying32 h
  rw [cellsWk] at hl
  match cs, hl with
  | [c0, c1, c2, c3, c4, c5, c6, c7, c8, c9, c10, c11, c12, c13, c14, c15, c16, c17, c18, c19, c20, c21, c22], _ =>
    match xs, hlen with
    | [y0, y1, y2, y3], _ =>
      have f0 := hf 0 _ rfl
      simp [cellsInt] at f0
      obtain ⟨x0, e0, _, h0⟩ := DataW.trod_int Tryz.underlying3 f0
      cases e0
      have f1 := hf 1 _ rfl
      simp [cellsBool] at f1
      obtain ⟨x1, e1, _⟩ := DataW.trod_bool Tryz.underlying4 f1
      cases e1
      have f2 := hf 2 _ rfl
      simp [cellsBool] at f2
      obtain ⟨x2, e2, _⟩ := DataW.trod_bool Tryz.underlying4 f2
      cases e2
      have f3 := hf 3 _ rfl
      simp [cellsMs] at f3
      obtain ⟨x3, v3_0, v3_1, v3_2, v3_3, v3_4, e3, r3_0, r3_1, r3_2, r3_3, r3_4, h3⟩ := Ms_open f3
      simp only [List.cons.injEq, and_true] at e3
      obtain ⟨rfl, rfl, rfl, rfl, rfl, rfl, rfl, rfl, rfl, rfl, rfl, rfl, rfl, rfl, rfl, rfl, rfl, rfl, rfl, rfl⟩ := e3
      exact ⟨⟨x0, x1, x2, x3⟩, _, _, _, _, _, rfl, r3_0, r3_1, r3_2, r3_3, r3_4, ⟨(bounds h0), rfl, rfl, h3⟩⟩
end Go.Proofs.YtlopcjhipajdcaaGreatDoor.R
/-! Sameness. -/
namespace Go.Proofs.YtlopcjhipajdcaaGreatDoor.R
open Go.RowKit
set_option maxRecDepth 20000
set_option maxHeartbeats 4000000 in
theorem eqTg_same (x : Tg) {u0 v0 u1 v1 : Value} {B : Nat} (w : World) (hx : LoTg x) (k0 : SStrR B w u0 x.ins) (l0 : SStrR B w v0 x.ins) (k1 : SStrR B w u1 x.outs) (l1 : SStrR B w v1 x.outs) :
    Calls Tryz.prog 34 #[.agg #[.string x.name, .string x.tool, .string x.arg, u0, u1], .agg #[.string x.name, .string x.tool, .string x.arg, v0, v1]] w fun e w' => e = .returned (.bool true) ∧ Below w.heap.size w w' := by
  have e0 : (x.name.toList != x.name.toList) = false := by simp
  have e1 : (x.tool.toList != x.tool.toList) = false := by simp
  have e2 : (x.arg.toList != x.arg.toList) = false := by simp
  have K0 := hid (And.intro k0 l0)
  obtain ⟨gu0, rfl⟩ := k0.sl
  obtain ⟨gv0, rfl⟩ := l0.sl
  clear k0 l0
  have K1 := hid (And.intro k1 l1)
  obtain ⟨gu1, rfl⟩ := k1.sl
  obtain ⟨gv1, rfl⟩ := l1.sl
  clear k1 l1
  have HLO := hid hx
  clear hx
  have HB0 := hid (B2.start w (.cells #[.string x.name, .string x.tool, .string x.arg, .slice (some ⟨gu0, 0, none⟩) x.ins.length x.ins.length, .slice (some ⟨gu1, 0, none⟩) x.outs.length x.outs.length] 35) (.cells #[.string x.name, .string x.tool, .string x.arg, .slice (some ⟨gv0, 0, none⟩) x.ins.length x.ins.length, .slice (some ⟨gv1, 0, none⟩) x.outs.length x.outs.length] 35))
  go_enter Tryz.func34, Tryz.ntmps34
  go_wp2_with fail
  refine (eqSStr_same x.ins _ HLO.out.1 (K0.out.1.next HB0.out.lo) (K0.out.2.next HB0.out.lo)).mono ?_
  rintro e w1 ⟨rfl, hb0⟩
  have HB1 := hid (HB0.out.next hb0)
  clear hb0
  have p1_4 : w1.cell? ⟨w.heap.size, 4, none⟩ = some (.slice (some ⟨gu1, 0, none⟩) x.outs.length x.outs.length) := row_cell HB1.out.e 4
  have q1_4 : w1.cell? ⟨w.heap.size + 1, 4, none⟩ = some (.slice (some ⟨gv1, 0, none⟩) x.outs.length x.outs.length) := row_cell HB1.out.f 4
  go_wp2_with fail
  refine (eqSStr_same x.outs _ HLO.out.2 (K1.out.1.next HB1.out.lo) (K1.out.2.next HB1.out.lo)).mono ?_
  rintro e w2 ⟨rfl, hb1⟩
  have HB2 := hid (HB1.out.next hb1)
  clear hb1
  go_wp2
  go_ret
  exact ⟨rfl, HB2.out.lo⟩
end Go.Proofs.YtlopcjhipajdcaaGreatDoor.R
/-! Sameness. -/
namespace Go.Proofs.YtlopcjhipajdcaaGreatDoor.R
open Go.RowKit
set_option maxRecDepth 20000
set_option maxHeartbeats 4000000 in
theorem eqRy_same (x : Ry) (w : World) :
    Calls Tryz.prog 93 #[.agg #[.int .i64 x.code, .string x.text], .agg #[.int .i64 x.code, .string x.text]] w fun e w' => e = .returned (.bool true) ∧ Below w.heap.size w w' := by
  have e0 : (x.text.toList != x.text.toList) = false := by simp
  have i0 : (x.code != x.code) = false := by simp
  have HB0 := hid (B2.start w (.cells #[.int .i64 x.code, .string x.text] 86) (.cells #[.int .i64 x.code, .string x.text] 86))
  go_enter Tryz.func93, Tryz.ntmps93
  go_wp2
  go_ret
  exact ⟨rfl, HB0.out.lo⟩
end Go.Proofs.YtlopcjhipajdcaaGreatDoor.R
/-! When, by the model. Printed by gen_ybody.py. -/
namespace Go.Proofs.YtlopcjhipajdcaaGreatDoor.Y
open Go.RowKit R
open Go.Proofs.YtlopcjhipajdcaaGreatDoor.J (FileOk BegOk RepOk ltB Says says_t says_f)
set_option maxRecDepth 20000
set_option maxHeartbeats 4000000 in
theorem when_any (m : Ms) {v0 v1 v2 v3 v4 : Value} (w : World) :
    Calls Tryz.prog 44 #[.agg #[.int .i64 m.kind, .int .i64 m.to, .int .i64 m.sender, .int .i64 m.epoch, .int .i64 m.edit, .string m.target.name, .string m.target.tool, .string m.target.arg, v0, v1, v2, .int .i64 m.count, .bool m.turn.over, .int .i64 m.turn.code, .string m.turn.text, .int .i64 m.turn.kind, .string m.turn.name, .int .i64 m.turn.steps, v3, v4]] w fun e w' => Says e ((1 ≤ m.epoch ∧ m.epoch ≤ 200) ∧ 0 ≤ m.edit ∧ m.edit ≤ 1000) ∧ Below w.heap.size w w' := by
  have HB0 := hid (B1.start w (.cells #[.int .i64 m.kind, .int .i64 m.to, .int .i64 m.sender, .int .i64 m.epoch, .int .i64 m.edit, .string m.target.name, .string m.target.tool, .string m.target.arg, v0, v1, v2, .int .i64 m.count, .bool m.turn.over, .int .i64 m.turn.code, .string m.turn.text, .int .i64 m.turn.kind, .string m.turn.name, .int .i64 m.turn.steps, v3, v4] 41))
  obtain ⟨W0, hW0⟩ : ∃ W, w.alloc (.cells #[.int .i64 m.kind, .int .i64 m.to, .int .i64 m.sender, .int .i64 m.epoch, .int .i64 m.edit, .string m.target.name, .string m.target.tool, .string m.target.arg, v0, v1, v2, .int .i64 m.count, .bool m.turn.over, .int .i64 m.turn.code, .string m.turn.text, .int .i64 m.turn.kind, .string m.turn.name, .int .i64 m.turn.steps, v3, v4] 41) = W := ⟨_, rfl⟩
  rw [hW0] at HB0
  have a3 : W0.cell? ⟨w.heap.size, 3, none⟩ = some (.int .i64 m.epoch) := row_cell HB0.out.e 3
  have a4 : W0.cell? ⟨w.heap.size, 4, none⟩ = some (.int .i64 m.edit) := row_cell HB0.out.e 4
  go_enter Tryz.func44, Tryz.ntmps44
  go_upto_region 1 with fail
  clear hW0
  go_wp2_with fail
  refine (l26In_any m.epoch 1 200 _).mono ?_
  rintro e W1 ⟨hs, rfl⟩
  by_cases h1 : 1 ≤ m.epoch ∧ m.epoch ≤ 200
  · have hq := hs.pos h1
    obtain rfl := hq
    have H1 := hid h1
    clear hs h1
    go_wp2_with fail
    refine (l26In_any m.edit 0 1000 _).mono ?_
    rintro e W2 ⟨⟨b, rfl, hb⟩, rfl⟩
    have HS := hid hb
    clear hb
    go_wp2
    go_ret
    exact ⟨⟨b, rfl, HS.out.trans ⟨fun h => ⟨H1.out, h⟩, fun h => h.2⟩⟩, HB0.out.lo⟩
  · have hq := hs.neg h1
    obtain rfl := hq
    have H1 := hid h1
    clear hs h1
    go_wp2
    go_ret
    exact ⟨says_f fun h => H1.out h.1, HB0.out.lo⟩
end Go.Proofs.YtlopcjhipajdcaaGreatDoor.Y
