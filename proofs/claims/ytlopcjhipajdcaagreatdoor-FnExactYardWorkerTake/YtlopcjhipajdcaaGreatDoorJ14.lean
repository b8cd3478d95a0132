import Derived.ProofKit
import Derived.Deep.Slices
import Derived.Deep.DeepCutAuto
import Derived.Test.YtlopcjhipajdcaaGreatDoorJ07
import Derived.Test.YtlopcjhipajdcaaGreatDoorJ13
import Derived.Test.YtlopcjhipajdcaaGreatDoorJ12
/-! What came in. -/
namespace Go.Proofs.YtlopcjhipajdcaaGreatDoor.R
open Go.RowKit
set_option maxRecDepth 20000
open Go.ChangeShapes Go.WideShapes Go.ChangeAt Go.Deep
theorem bounds {x : Int} (h : (Lit.int .i64 x).wf = true) : -9223372036854775808 ≤ x ∧ x ≤ 9223372036854775807 := by
  simpa [Lit.wf, IntKind.min, IntKind.max, IntKind.signed, IntKind.bits] using h
theorem cellsString : Tryz.prog.cellsOf 9 = 1 := by kernel_rfl
theorem cellsInt : Tryz.prog.cellsOf 3 = 1 := by kernel_rfl
theorem cellsStr : Tryz.prog.cellsOf 9 = 1 := by kernel_rfl
theorem cellsBool : Tryz.prog.cellsOf 4 = 1 := by kernel_rfl
theorem cellsSStr : Tryz.prog.cellsOf 22 = 1 := by kernel_rfl
theorem SStr_open {H : Type} {enc : TypeId × Value → H} {W : World} {base : Nat} {spare : Nat → Bool} {held : Bool} {n : Nat} {v : Value} {z : DataW H × List MemPlace} (f0 : DataW.trod enc Tryz.prog W base spare held n 22 [v] = some z) :
    ∃ l : List ByteArray, SStrA W v l ∧ OkStrS l := by
  rcases open_slice Tryz.underlying22 f0 with ⟨e, _⟩ | ⟨a, len, cap, m, n2, D, Pl, e, hb, hlc, hcm, hm, _, hel⟩
  · exact ⟨[], ⟨none, 0, by simpa using e, .inl rfl⟩, ⟨Nat.zero_le _, fun i h => absurd h (Nat.not_lt_zero _)⟩⟩
  · have hall : ∀ i, ∃ x : ByteArray, i < len → (StrA W (a.add i) x) ∧ x.size ≤ maxLen ∧ a.block < W.heap.size := fun i => by
      by_cases hi : i < len
      · have hm2 : len ≤ m := by rw [hm]; split <;> omega
        obtain ⟨cs', hc, ht⟩ := hel i (by omega)
        rw [cellsString, Nat.mul_one] at hc
        obtain ⟨x, e0, _, hx⟩ := DataW.trod_string Tryz.underlying9 ht
        subst e0
        refine ⟨x, fun _ => ?_⟩
        have hbl := World.cells?_block hc (by omega)
        rw [add_block] at hbl
        obtain ⟨_, _, hg⟩ := World.cells?_some hc
        exact ⟨(by have := hg 0 (by omega); simpa [Addr.add, StrA] using this), hx, hbl⟩
      · exact ⟨⟨#[]⟩, fun h => absurd h hi⟩
    obtain ⟨f, hnd⟩ := Classical.skolem.1 hall
    have hget : ∀ i, i < len → ((List.range len).map f).getD i ⟨#[]⟩ = f i := fun i hi => by simp [List.getD_eq_getElem?_getD, hi]
    have hlen : ((List.range len).map f).length = len := by simp
    refine ⟨(List.range len).map f, ⟨some a, cap, by rw [hlen]; simpa using e, ?_⟩, ?_⟩
    · by_cases h0 : len = 0
      · subst h0; exact .inl rfl
      · refine .inr ⟨a, rfl, (hnd 0 (by omega)).2.2, fun i hi => ?_⟩
        rw [hlen] at hi
        rw [hget i hi]
        exact (hnd i hi).1
    · refine ⟨by rw [hlen]; omega, fun i hi => ?_⟩
      rw [hlen] at hi
      rw [hget i hi]
      exact (hnd i hi).2.1
theorem cellsTg : Tryz.prog.cellsOf 24 = 5 := by kernel_rfl
theorem Tg_open {H : Type} {enc : TypeId × Value → H} {W : World} {base : Nat} {spare : Nat → Bool} {held : Bool} {n : Nat} {cs : List Value} {z : DataW H × List MemPlace} (h : DataW.trod enc Tryz.prog W base spare held n 24 cs = some z) :
    ∃ (x : Tg) (v0 : Value) (v1 : Value), cs = [.string x.name, .string x.tool, .string x.arg, v0, v1] ∧ SStrA W v0 x.ins ∧ SStrA W v1 x.outs ∧ OkTg x := by
  obtain ⟨xs, m, _, _, hl, hlen, hf⟩ := DataW.trod_struct Tryz.underlying24 h
  rw [cellsTg] at hl
  match cs, hl with
  | [c0, c1, c2, c3, c4], _ =>
    match xs, hlen with
    | [y0, y1, y2, y3, y4], _ =>
      have f0 := hf 0 _ rfl
      simp [cellsStr] at f0
      obtain ⟨x0, e0, _, h0⟩ := DataW.trod_string Tryz.underlying9 f0
      cases e0
      have f1 := hf 1 _ rfl
      simp [cellsStr] at f1
      obtain ⟨x1, e1, _, h1⟩ := DataW.trod_string Tryz.underlying9 f1
      cases e1
      have f2 := hf 2 _ rfl
      simp [cellsStr] at f2
      obtain ⟨x2, e2, _, h2⟩ := DataW.trod_string Tryz.underlying9 f2
      cases e2
      have f3 := hf 3 _ rfl
      simp [cellsSStr] at f3
      obtain ⟨x3, r3, h3⟩ := SStr_open f3
      have f4 := hf 4 _ rfl
      simp [cellsSStr] at f4
      obtain ⟨x4, r4, h4⟩ := SStr_open f4
      exact ⟨⟨x0, x1, x2, x3, x4⟩, c3, c4, rfl, r3, r4, ⟨h0, h1, h2, h3, h4⟩⟩
theorem cellsRy : Tryz.prog.cellsOf 91 = 2 := by kernel_rfl
theorem Ry_open {H : Type} {enc : TypeId × Value → H} {W : World} {base : Nat} {spare : Nat → Bool} {held : Bool} {n : Nat} {cs : List Value} {z : DataW H × List MemPlace} (h : DataW.trod enc Tryz.prog W base spare held n 91 cs = some z) :
    ∃ (x : Ry), cs = [.int .i64 x.code, .string x.text] ∧ OkRy x := by
  obtain ⟨xs, m, _, _, hl, hlen, hf⟩ := DataW.trod_struct Tryz.underlying91 h
  rw [cellsRy] at hl
  match cs, hl with
  | [c0, c1], _ =>
    match xs, hlen with
    | [y0, y1], _ =>
      have f0 := hf 0 _ rfl
      simp [cellsInt] at f0
      obtain ⟨x0, e0, _, h0⟩ := DataW.trod_int Tryz.underlying3 f0
      cases e0
      have f1 := hf 1 _ rfl
      simp [cellsStr] at f1
      obtain ⟨x1, e1, _, h1⟩ := DataW.trod_string Tryz.underlying9 f1
      cases e1
      exact ⟨⟨x0, x1⟩, rfl, ⟨(bounds h0), h1⟩⟩
theorem cellsSn : Tryz.prog.cellsOf 93 = 4 := by kernel_rfl
theorem Sn_open {H : Type} {enc : TypeId × Value → H} {W : World} {base : Nat} {spare : Nat → Bool} {held : Bool} {n : Nat} {cs : List Value} {z : DataW H × List MemPlace} (h : DataW.trod enc Tryz.prog W base spare held n 93 cs = some z) :
    ∃ (x : Sn), cs = [.int .i64 x.kind, .string x.name, .int .i64 x.reply.code, .string x.reply.text] ∧ OkSn x := by
  obtain ⟨xs, m, _, _, hl, hlen, hf⟩ := DataW.trod_struct Tryz.underlying93 h
  rw [cellsSn] at hl
  match cs, hl with
  | [c0, c1, c2, c3], _ =>
    match xs, hlen with
    | [y0, y1, y2], _ =>
      have f0 := hf 0 _ rfl
      simp [cellsInt] at f0
      obtain ⟨x0, e0, _, h0⟩ := DataW.trod_int Tryz.underlying3 f0
      cases e0
      have f1 := hf 1 _ rfl
      simp [cellsStr] at f1
      obtain ⟨x1, e1, _, h1⟩ := DataW.trod_string Tryz.underlying9 f1
      cases e1
      have f2 := hf 2 _ rfl
      simp [cellsRy] at f2
      obtain ⟨x2, e2, h2⟩ := Ry_open f2
      simp only [List.cons.injEq, and_true] at e2
      obtain ⟨rfl, rfl⟩ := e2
      exact ⟨⟨x0, x1, x2⟩, rfl, ⟨(bounds h0), h1, h2⟩⟩
theorem cellsSSn : Tryz.prog.cellsOf 25 = 1 := by kernel_rfl
theorem SSn_open {H : Type} {enc : TypeId × Value → H} {W : World} {base : Nat} {spare : Nat → Bool} {held : Bool} {n : Nat} {v : Value} {z : DataW H × List MemPlace} (f0 : DataW.trod enc Tryz.prog W base spare held n 25 [v] = some z) :
    ∃ l : List Sn, SSnA W v l ∧ OkSnS l := by
  rcases open_slice Tryz.underlying25 f0 with ⟨e, _⟩ | ⟨a, len, cap, m, n2, D, Pl, e, hb, hlc, hcm, hm, _, hel⟩
  · exact ⟨[], ⟨none, 0, by simpa using e, .inl rfl⟩, ⟨Nat.zero_le _, fun i h => absurd h (Nat.not_lt_zero _)⟩⟩
  · have hall : ∀ i, ∃ x : Sn, i < len → (SnA W (a.add (i * 4)) x) ∧ OkSn x ∧ a.block < W.heap.size := fun i => by
      by_cases hi : i < len
      · have hm2 : len ≤ m := by rw [hm]; split <;> omega
        obtain ⟨cs', hc, ht⟩ := hel i (by omega)
        rw [cellsSn] at hc
        obtain ⟨x, rfl, hx⟩ := Sn_open ht
        refine ⟨x, fun _ => ?_⟩
        have hbl := World.cells?_block hc (by omega)
        rw [add_block] at hbl
        obtain ⟨_, _, hg⟩ := World.cells?_some hc
        exact ⟨⟨(by have := hg 0 (by omega); simpa [Addr.add] using this), (by have := hg 1 (by omega); rw [add_one _ 1 (by decide)] at this; simpa using this), (by have := hg 2 (by omega); rw [add_one _ 2 (by decide)] at this; simpa using this), (by have := hg 3 (by omega); rw [add_one _ 3 (by decide)] at this; simpa using this)⟩, hx, hbl⟩
      · exact ⟨sn0, fun h => absurd h hi⟩
    obtain ⟨f, hnd⟩ := Classical.skolem.1 hall
    have hget : ∀ i, i < len → ((List.range len).map f).getD i sn0 = f i := fun i hi => by simp [List.getD_eq_getElem?_getD, hi]
    have hlen : ((List.range len).map f).length = len := by simp
    refine ⟨(List.range len).map f, ⟨some a, cap, by rw [hlen]; simpa using e, ?_⟩, ?_⟩
    · by_cases h0 : len = 0
      · subst h0; exact .inl rfl
      · refine .inr ⟨a, rfl, (hnd 0 (by omega)).2.2, fun i hi => ?_⟩
        rw [hlen] at hi
        rw [hget i hi]
        exact (hnd i hi).1
    · refine ⟨by rw [hlen]; omega, fun i hi => ?_⟩
      rw [hlen] at hi
      rw [hget i hi]
      exact (hnd i hi).2.1
theorem cellsFl : Tryz.prog.cellsOf 124 = 2 := by kernel_rfl
theorem Fl_open {H : Type} {enc : TypeId × Value → H} {W : World} {base : Nat} {spare : Nat → Bool} {held : Bool} {n : Nat} {cs : List Value} {z : DataW H × List MemPlace} (h : DataW.trod enc Tryz.prog W base spare held n 124 cs = some z) :
    ∃ (x : Fl), cs = [.string x.name, .string x.text] ∧ OkFl x := by
  obtain ⟨xs, m, _, _, hl, hlen, hf⟩ := DataW.trod_struct Tryz.underlying124 h
  rw [cellsFl] at hl
  match cs, hl with
  | [c0, c1], _ =>
    match xs, hlen with
    | [y0, y1], _ =>
      have f0 := hf 0 _ rfl
      simp [cellsStr] at f0
      obtain ⟨x0, e0, _, h0⟩ := DataW.trod_string Tryz.underlying9 f0
      cases e0
      have f1 := hf 1 _ rfl
      simp [cellsStr] at f1
      obtain ⟨x1, e1, _, h1⟩ := DataW.trod_string Tryz.underlying9 f1
      cases e1
      exact ⟨⟨x0, x1⟩, rfl, ⟨h0, h1⟩⟩
theorem cellsSFl : Tryz.prog.cellsOf 26 = 1 := by kernel_rfl
theorem SFl_open {H : Type} {enc : TypeId × Value → H} {W : World} {base : Nat} {spare : Nat → Bool} {held : Bool} {n : Nat} {v : Value} {z : DataW H × List MemPlace} (f0 : DataW.trod enc Tryz.prog W base spare held n 26 [v] = some z) :
    ∃ l : List Fl, SFlA W v l ∧ OkFlS l := by
  rcases open_slice Tryz.underlying26 f0 with ⟨e, _⟩ | ⟨a, len, cap, m, n2, D, Pl, e, hb, hlc, hcm, hm, _, hel⟩
  · exact ⟨[], ⟨none, 0, by simpa using e, .inl rfl⟩, ⟨Nat.zero_le _, fun i h => absurd h (Nat.not_lt_zero _)⟩⟩
  · have hall : ∀ i, ∃ x : Fl, i < len → (FlA W (a.add (i * 2)) x) ∧ OkFl x ∧ a.block < W.heap.size := fun i => by
      by_cases hi : i < len
      · have hm2 : len ≤ m := by rw [hm]; split <;> omega
        obtain ⟨cs', hc, ht⟩ := hel i (by omega)
        rw [cellsFl] at hc
        obtain ⟨x, rfl, hx⟩ := Fl_open ht
        refine ⟨x, fun _ => ?_⟩
        have hbl := World.cells?_block hc (by omega)
        rw [add_block] at hbl
        obtain ⟨_, _, hg⟩ := World.cells?_some hc
        exact ⟨⟨(by have := hg 0 (by omega); simpa [Addr.add] using this), (by have := hg 1 (by omega); rw [add_one _ 1 (by decide)] at this; simpa using this)⟩, hx, hbl⟩
      · exact ⟨fl0, fun h => absurd h hi⟩
    obtain ⟨f, hnd⟩ := Classical.skolem.1 hall
    have hget : ∀ i, i < len → ((List.range len).map f).getD i fl0 = f i := fun i hi => by simp [List.getD_eq_getElem?_getD, hi]
    have hlen : ((List.range len).map f).length = len := by simp
    refine ⟨(List.range len).map f, ⟨some a, cap, by rw [hlen]; simpa using e, ?_⟩, ?_⟩
    · by_cases h0 : len = 0
      · subst h0; exact .inl rfl
      · refine .inr ⟨a, rfl, (hnd 0 (by omega)).2.2, fun i hi => ?_⟩
        rw [hlen] at hi
        rw [hget i hi]
        exact (hnd i hi).1
    · refine ⟨by rw [hlen]; omega, fun i hi => ?_⟩
      rw [hlen] at hi
      rw [hget i hi]
      exact (hnd i hi).2.1
theorem cellsTu : Tryz.prog.cellsOf 28 = 8 := by kernel_rfl
theorem Tu_open {H : Type} {enc : TypeId × Value → H} {W : World} {base : Nat} {spare : Nat → Bool} {held : Bool} {n : Nat} {cs : List Value} {z : DataW H × List MemPlace} (h : DataW.trod enc Tryz.prog W base spare held n 28 cs = some z) :
    ∃ (x : Tu) (v0 : Value) (v1 : Value), cs = [.bool x.over, .int .i64 x.code, .string x.text, .int .i64 x.kind, .string x.name, .int .i64 x.steps, v0, v1] ∧ SFlA W v0 x.files ∧ SStrA W v1 x.said ∧ OkTu x := by
  obtain ⟨xs, m, _, _, hl, hlen, hf⟩ := DataW.trod_struct Tryz.underlying28 h
  rw [cellsTu] at hl
  match cs, hl with
  | [c0, c1, c2, c3, c4, c5, c6, c7], _ =>
    match xs, hlen with
    | [y0, y1, y2, y3, y4, y5, y6, y7], _ =>
      have f0 := hf 0 _ rfl
      simp [cellsBool] at f0
      obtain ⟨x0, e0, _⟩ := DataW.trod_bool Tryz.underlying4 f0
      cases e0
      have f1 := hf 1 _ rfl
      simp [cellsInt] at f1
      obtain ⟨x1, e1, _, h1⟩ := DataW.trod_int Tryz.underlying3 f1
      cases e1
      have f2 := hf 2 _ rfl
      simp [cellsStr] at f2
      obtain ⟨x2, e2, _, h2⟩ := DataW.trod_string Tryz.underlying9 f2
      cases e2
      have f3 := hf 3 _ rfl
      simp [cellsInt] at f3
      obtain ⟨x3, e3, _, h3⟩ := DataW.trod_int Tryz.underlying3 f3
      cases e3
      have f4 := hf 4 _ rfl
      simp [cellsStr] at f4
      obtain ⟨x4, e4, _, h4⟩ := DataW.trod_string Tryz.underlying9 f4
      cases e4
      have f5 := hf 5 _ rfl
      simp [cellsInt] at f5
      obtain ⟨x5, e5, _, h5⟩ := DataW.trod_int Tryz.underlying3 f5
      cases e5
      have f6 := hf 6 _ rfl
      simp [cellsSFl] at f6
      obtain ⟨x6, r6, h6⟩ := SFl_open f6
      have f7 := hf 7 _ rfl
      simp [cellsSStr] at f7
      obtain ⟨x7, r7, h7⟩ := SStr_open f7
      exact ⟨⟨x0, x1, x2, x3, x4, x5, x6, x7⟩, c6, c7, rfl, r6, r7, ⟨rfl, (bounds h1), h2, (bounds h3), h4, (bounds h5), h6, h7⟩⟩
theorem cellsMs : Tryz.prog.cellsOf 30 = 20 := by kernel_rfl
theorem Ms_open {H : Type} {enc : TypeId × Value → H} {W : World} {base : Nat} {spare : Nat → Bool} {held : Bool} {n : Nat} {cs : List Value} {z : DataW H × List MemPlace} (h : DataW.trod enc Tryz.prog W base spare held n 30 cs = some z) :
    ∃ (x : Ms) (v0 : Value) (v1 : Value) (v2 : Value) (v3 : Value) (v4 : Value), cs = [.int .i64 x.kind, .int .i64 x.to, .int .i64 x.sender, .int .i64 x.epoch, .int .i64 x.edit, .string x.target.name, .string x.target.tool, .string x.target.arg, v0, v1, v2, .int .i64 x.count, .bool x.turn.over, .int .i64 x.turn.code, .string x.turn.text, .int .i64 x.turn.kind, .string x.turn.name, .int .i64 x.turn.steps, v3, v4] ∧ SStrA W v0 x.target.ins ∧ SStrA W v1 x.target.outs ∧ SSnA W v2 x.seen ∧ SFlA W v3 x.turn.files ∧ SStrA W v4 x.turn.said ∧ OkMs x := by
  obtain ⟨xs, m, _, _, hl, hlen, hf⟩ := DataW.trod_struct Tryz.underlying30 h
  rw [cellsMs] at hl
  match cs, hl with
  | [c0, c1, c2, c3, c4, c5, c6, c7, c8, c9, c10, c11, c12, c13, c14, c15, c16, c17, c18, c19], _ =>
    match xs, hlen with
    | [y0, y1, y2, y3, y4, y5, y6, y7, y8], _ =>
      have f0 := hf 0 _ rfl
      simp [cellsInt] at f0
      obtain ⟨x0, e0, _, h0⟩ := DataW.trod_int Tryz.underlying3 f0
      cases e0
      have f1 := hf 1 _ rfl
      simp [cellsInt] at f1
      obtain ⟨x1, e1, _, h1⟩ := DataW.trod_int Tryz.underlying3 f1
      cases e1
      have f2 := hf 2 _ rfl
      simp [cellsInt] at f2
      obtain ⟨x2, e2, _, h2⟩ := DataW.trod_int Tryz.underlying3 f2
      cases e2
      have f3 := hf 3 _ rfl
      simp [cellsInt] at f3
      obtain ⟨x3, e3, _, h3⟩ := DataW.trod_int Tryz.underlying3 f3
      cases e3
      have f4 := hf 4 _ rfl
      simp [cellsInt] at f4
      obtain ⟨x4, e4, _, h4⟩ := DataW.trod_int Tryz.underlying3 f4
      cases e4
      have f5 := hf 5 _ rfl
      simp [cellsTg] at f5
      obtain ⟨x5, v5_0, v5_1, e5, r5_0, r5_1, h5⟩ := Tg_open f5
      simp only [List.cons.injEq, and_true] at e5
      obtain ⟨rfl, rfl, rfl, rfl, rfl⟩ := e5
      have f6 := hf 6 _ rfl
      simp [cellsSSn] at f6
      obtain ⟨x6, r6, h6⟩ := SSn_open f6
      have f7 := hf 7 _ rfl
      simp [cellsInt] at f7
      obtain ⟨x7, e7, _, h7⟩ := DataW.trod_int Tryz.underlying3 f7
      cases e7
      have f8 := hf 8 _ rfl
      simp [cellsTu] at f8
      obtain ⟨x8, v8_0, v8_1, e8, r8_0, r8_1, h8⟩ := Tu_open f8
      simp only [List.cons.injEq, and_true] at e8
      obtain ⟨rfl, rfl, rfl, rfl, rfl, rfl, rfl, rfl⟩ := e8
      exact ⟨⟨x0, x1, x2, x3, x4, x5, x6, x7, x8⟩, _, _, c10, _, _, rfl, r5_0, r5_1, r6, r8_0, r8_1, ⟨(bounds h0), (bounds h1), (bounds h2), (bounds h3), (bounds h4), h5, h6, (bounds h7), h8⟩⟩
theorem cellsWk : Tryz.prog.cellsOf 32 = 23 := by kernel_rfl
theorem Wk_open {H : Type} {enc : TypeId × Value → H} {W : World} {base : Nat} {spare : Nat → Bool} {held : Bool} {n : Nat} {cs : List Value} {z : DataW H × List MemPlace} (h : DataW.trod enc Tryz.prog W base spare held n 32 cs = some z) :
    ∃ (x : Wk) (v0 : Value) (v1 : Value) (v2 : Value) (v3 : Value) (v4 : Value), cs = [.int .i64 x.number, .bool x.up, .bool x.has, .int .i64 x.offer.kind, .int .i64 x.offer.to, .int .i64 x.offer.sender, .int .i64 x.offer.epoch, .int .i64 x.offer.edit, .string x.offer.target.name, .string x.offer.target.tool, .string x.offer.target.arg, v0, v1, v2, .int .i64 x.offer.count, .bool x.offer.turn.over, .int .i64 x.offer.turn.code, .string x.offer.turn.text, .int .i64 x.offer.turn.kind, .string x.offer.turn.name, .int .i64 x.offer.turn.steps, v3, v4] ∧ SStrA W v0 x.offer.target.ins ∧ SStrA W v1 x.offer.target.outs ∧ SSnA W v2 x.offer.seen ∧ SFlA W v3 x.offer.turn.files ∧ SStrA W v4 x.offer.turn.said ∧ OkWk x := by
  obtain ⟨xs, m, _, _, hl, hlen, hf⟩ := DataW.trod_struct Tryz.underlying32 h
  rw [cellsWk] at hl
  match cs, hl with
  | [c0, c1, c2, c3, c4, c5, c6, c7, c8, c9, c10, c11, c12, c13, c14, c15, c16, c17, c18, c19, c20, c21, c22], _ =>
    match xs, hlen with
    | [y0, y1, y2, y3], _ =>
      have f0 := hf 0 _ rfl
      simp [cellsInt] at f0
      obtain ⟨x0, e0, _, h0⟩ := DataW.trod_int Tryz.underlying3 f0
      cases e0
      have f1 := hf 1 _ rfl
      simp [cellsBool] at f1
      obtain ⟨x1, e1, _⟩ := DataW.trod_bool Tryz.underlying4 f1
      cases e1
      have f2 := hf 2 _ rfl
      simp [cellsBool] at f2
      obtain ⟨x2, e2, _⟩ := DataW.trod_bool Tryz.underlying4 f2
      cases e2
      have f3 := hf 3 _ rfl
      simp [cellsMs] at f3
      obtain ⟨x3, v3_0, v3_1, v3_2, v3_3, v3_4, e3, r3_0, r3_1, r3_2, r3_3, r3_4, h3⟩ := Ms_open f3
      simp only [List.cons.injEq, and_true] at e3
      obtain ⟨rfl, rfl, rfl, rfl, rfl, rfl, rfl, rfl, rfl, rfl, rfl, rfl, rfl, rfl, rfl, rfl, rfl, rfl, rfl, rfl⟩ := e3
      exact ⟨⟨x0, x1, x2, x3⟩, _, _, _, _, _, rfl, r3_0, r3_1, r3_2, r3_3, r3_4, ⟨(bounds h0), rfl, rfl, h3⟩⟩
end Go.Proofs.YtlopcjhipajdcaaGreatDoor.R
/-! Sameness. -/
namespace Go.Proofs.YtlopcjhipajdcaaGreatDoor.R
open Go.RowKit
set_option maxRecDepth 20000
end Go.Proofs.YtlopcjhipajdcaaGreatDoor.R
/-! The marks' texts; what marking leaves as it was. Printed by gen_yrow.py. -/
namespace Go.Proofs.YtlopcjhipajdcaaGreatDoor.Y
open Go.RowKit R
open Go.Proofs.YtlopcjhipajdcaaGreatDoor.J (FileOk BegOk RepOk ltB Says says_t says_f)
set_option maxRecDepth 20000
/-- The decimal digits, the last one last; by fuel. -/
def decF : Nat → Nat → List UInt8 → List UInt8
  | 0, _, acc => acc
  | f + 1, k, acc => if k = 0 then acc else decF f (k / 10) ((48 + k % 10).toUInt8 :: acc)
def mtxt (k : Nat) : ByteArray := ⟨(109 :: decF k k []).toArray⟩
theorem conv_one (W : World) (d : Int) (b : UInt8) (hd : (b.toNat : Int) = d) : (convert 112 9 (.slice (some ⟨W.heap.size, 0, none⟩) 1 1)).run Tryz.prog (W.alloc (.cells #[.int .u8 d] 5)) = .ok (.string ⟨[b].toArray⟩) (W.alloc (.cells #[.int .u8 d] 5)) := by
  refine run_convert_bytes_back (W.alloc (.cells #[.int .u8 d] 5)) 112 9 5 ⟨W.heap.size, 0, none⟩ 1 [b] Tryz.underlying112 Tryz.underlying5 Tryz.underlying9 ?_
  intro j hj
  obtain rfl : j = 0 := by simpa using hj
  have h := row_cell (heap_alloc_new W (.cells #[.int .u8 d] 5)) 0
  subst hd
  exact h
theorem cons_bytes (b : UInt8) (acc : List UInt8) : ((⟨#[b]⟩ : ByteArray) ++ ⟨acc.toArray⟩) = ⟨(b :: acc).toArray⟩ := by
  apply ByteArray.ext
  rw [ByteArray.data_append]
  simp
theorem digit_byte (j : Nat) : (((48 + j % 10).toUInt8).toNat : Int) = 48 + (j : Int) % 10 := by
  have h : (48 + j % 10) < 256 := by omega
  simp [Nat.mod_eq_of_lt h]
theorem ret_int {k : IntKind} {a b : Int} (h : a = b) : Ending.returned (.int k a) = .returned (.int k b) := by rw [h]
set_option maxRecDepth 20000 in
set_option maxHeartbeats 100000000 in
theorem markText_any (k : Nat) (w : World) (h0 : 0 < k) (h1 : k ≤ 10000000) :
    Calls Tryz.prog 71 #[.int .i64 k] w fun e w' => e = .returned (.string (mtxt k)) ∧ Below w.heap.size w w' := by
  go_enter Tryz.func71, Tryz.ntmps71
  go_wp2
  go_loopw [0, 3] (fun i o wr => ∃ (j f : Nat) (acc : List UInt8), i = .int .i64 j ∧ j ≤ f ∧ acc.length + j ≤ k ∧ o = .string ⟨acc.toArray⟩ ∧ Below w.heap.size w wr ∧ decF f j acc = decF k k []) (fun i _ _ => (intOf i).toNat)
  case atStart => exact ⟨k, k, [], rfl, Nat.le_refl _, by simp, rfl, Below.refl _ _, rfl⟩
  case round =>
    obtain ⟨j, f, acc, rfl, hf, hj, rfl, hb, hd⟩ := hrel
    have HD := hid hd
    have HB := hid hb
    clear hd hb
    have hal : acc.length ≤ 10000000 := by omega
    by_cases hj0 : 0 < j
    · obtain ⟨f, rfl⟩ : ∃ f', f = f' + 1 := ⟨f - 1, by omega⟩
      have hconv := conv_one wr (48 + (j : Int) % 10) (48 + j % 10).toUInt8 (digit_byte j)
      have NX : Hid (decF f (j / 10) ((48 + j % 10).toUInt8 :: acc) = decF k k []) := by
        show _ = _; rw [← HD.out]; simp only [decF]; rw [if_neg (by omega)]
      generalize (48 + j % 10).toUInt8 = b at *
      go_wp2
      go_roundw
      case rel => exact ⟨j / 10, f, b :: acc, by go_num, by omega, by simp; omega, by rw [cons_bytes], HB.out.alloc HB.out.size _, NX.out⟩
      case measure => simp [intOf]; omega
    · have HE : Hid (decF k k [] = acc) := by
        show _ = _; rw [← HD.out]
        obtain rfl : j = 0 := by omega
        cases f <;> rfl
      go_wp2
      go_ret
      exact ⟨by unfold mtxt; rw [HE.out, ← cons_bytes]; rfl, HB.out⟩
theorem markText_int (a : Int) (k : Nat) (w : World) (he : a = k) (h0 : 0 < k) (h1 : k ≤ 10000000) :
    Calls Tryz.prog 71 #[.int .i64 a] w fun e w' => e = .returned (.string (mtxt k)) ∧ Below w.heap.size w w' := by
  subst he
  exact markText_any k w h0 h1
theorem grown_setM {w wr : World} {g : Nat} (h : w.grownBy wr (some g)) (i : Nat) (v : Value) : w.grownBy (wr.setCell ⟨g, i, none⟩ v) (some g) :=
  ⟨h.os, h.tape, h.output, Nat.le_trans h.size (R.below_set (Below.refl 0 wr) g i (Nat.zero_le _) v).size, fun k hk hne => (Below.heap_setCell wr ⟨g, i, none⟩ v k (fun e => hne (by rw [e]))).trans (h.block k hk hne)⟩
theorem grown_next {w wr w1 : World} {g : Nat} (h : w.grownBy wr (some g)) (hb : Below wr.heap.size wr w1) : w.grownBy w1 (some g) :=
  ⟨hb.os.trans h.os, hb.tape.trans h.tape, hb.output.trans h.output, Nat.le_trans h.size hb.size, fun k hk hne => (hb.block k (Nat.lt_of_lt_of_le hk h.size)).trans (h.block k hk hne)⟩
theorem cell_ne {W : World} {g i k : Nat} {v : Value} (h : ¬ i = k) : (W.setCell ⟨g, i, none⟩ v).cell? ⟨g, k, none⟩ = W.cell? ⟨g, k, none⟩ := World.cell?_setCell_other _ _ _ _ (fun e => h (by injection e))
theorem cell_eq {W : World} {g i : Nat} {u v : Value} (h : W.cell? ⟨g, i, none⟩ = some u) : (W.setCell ⟨g, i, none⟩ v).cell? ⟨g, i, none⟩ = some v := World.cell?_setCell_same _ _ _ h
theorem grown_refl (W : World) (b : Option Nat) : W.grownBy W b := ⟨rfl, rfl, rfl, Nat.le_refl _, fun _ _ _ => rfl⟩
/-- All blocks of cells keep their type and their size. -/
def Mk (W V : World) : Prop := ∀ (i : Nat) (cur : Array Value) (t : TypeId), W.heap[i]? = some (.cells cur t (0, 0)) → ∃ cur' : Array Value, V.heap[i]? = some (.cells cur' t (0, 0)) ∧ cur'.size = cur.size
theorem Mk.refl (W : World) : Mk W W := fun _ cur _ h => ⟨cur, h, rfl⟩
theorem Mk.trans {W V U : World} (h : Mk W V) (h2 : Mk V U) : Mk W U := fun i cur t h1 => by
  obtain ⟨c1, e1, s1⟩ := h i cur t h1
  obtain ⟨c2, e2, s2⟩ := h2 i c1 t e1
  exact ⟨c2, e2, s2.trans s1⟩
theorem Mk.of_below {W V : World} (h : Below W.heap.size W V) : Mk W V := fun _ cur _ h1 => ⟨cur, hp_next h1 h, rfl⟩
theorem Mk.of_grown {W V : World} {g : Nat} (h : W.grownBy V (some g)) {cur cur' : Array Value} {t : TypeId} (h1 : W.heap[g]? = some (.cells cur t (0, 0))) (h2 : V.heap[g]? = some (.cells cur' t (0, 0))) (hs : cur'.size = cur.size) : Mk W V := fun i c u h3 => by
  by_cases e : i = g
  · subst e
    rw [h1] at h3
    injection h3 with h3
    injection h3 with e1 e2 _
    subst e1 e2
    exact ⟨cur', h2, hs⟩
  · exact ⟨c, (h.block i (lt_hp h3) (by intro e2; injection e2 with e2; exact e e2)).trans h3, rfl⟩
/-- A row that may be marked: it lies in the blocks from B to T. -/
def Sh (B T : Nat) (t : TypeId) (k : Nat) (W : World) (v : Value) (n : Nat) : Prop := (v = .slice none 0 0 ∧ n = 0) ∨ ∃ g cap cur, v = .slice (some ⟨g, 0, none⟩) n cap ∧ B ≤ g ∧ g < T ∧ W.heap[g]? = some (.cells cur t (0, 0)) ∧ n * k ≤ cur.size
theorem Sh.mk {B T t k n : Nat} {W V : World} {v : Value} (h : Sh B T t k W v n) (hm : Mk W V) : Sh B T t k V v n := by
  rcases h with h | ⟨g, cap, cur, e, hB, hT, hc, hs⟩
  · exact .inl h
  · obtain ⟨c2, e2, s2⟩ := hm g cur t hc
    exact .inr ⟨g, cap, c2, e, hB, hT, e2, by rw [s2]; exact hs⟩
theorem Sh.next {B T t k n : Nat} {W V : World} {v : Value} (h : Sh B T t k W v n) (hb : Below W.heap.size W V) : Sh B T t k V v n := h.mk (.of_below hb)
theorem Sh.sl {B T t k n : Nat} {W : World} {v : Value} (h : Sh B T t k W v n) : ∃ ad c, v = .slice ad n c := by
  rcases h with ⟨rfl, rfl⟩ | ⟨g, cap, cur, rfl, _⟩
  · exact ⟨_, _, rfl⟩
  · exact ⟨_, _, rfl⟩
theorem Sh.own {B T t k n : Nat} {W : World} {v : Value} {xs : List Value} (h : W.ownsRow B t k v n xs) (hT : W.heap.size ≤ T) : Sh B T t k W v n := by
  obtain ⟨h1, ⟨rfl, rfl⟩ | ⟨g, cap, cur, rfl, hB, hc, hn, _, hs, _⟩⟩ := h
  · exact .inl ⟨rfl, rfl⟩
  · exact .inr ⟨g, cap, cur, rfl, hB, Nat.lt_of_lt_of_le (lt_hp hc) hT, hc, by rw [hs]; exact Nat.mul_le_mul_right _ hn⟩
theorem Sh.block {B T t k n g : Nat} {W : World} {v : Value} (h : Sh B T t k W v n) (e : v.ownBlock = some g) : B ≤ g ∧ g < T := by
  rcases h with ⟨rfl, _⟩ | ⟨g', cap, cur, rfl, hB, hT, _⟩
  · cases e
  · simp [Value.ownBlock] at e
    subst e
    exact ⟨hB, hT⟩
/-- A row that is marked: what lies outside of B to T stays. -/
structure Lm (B T : Nat) (W V : World) : Prop where
  lo : Below B W V
  hi : ∀ i, T ≤ i → i < W.heap.size → V.heap[i]? = W.heap[i]?
  km : Mk W V
theorem Lm.refl (B T : Nat) (W : World) : Lm B T W W := ⟨.refl _ _, fun _ _ _ => rfl, .refl W⟩
theorem Lm.trans {B T : Nat} {W V U : World} (h : Lm B T W V) (h2 : Lm B T V U) : Lm B T W U := ⟨h.lo.trans h2.lo, fun i h3 h4 => (h2.hi i h3 (Nat.lt_of_lt_of_le h4 h.lo.size)).trans (h.hi i h3 h4), h.km.trans h2.km⟩
theorem Lm.of_below {B T : Nat} {W V : World} (h : Below W.heap.size W V) (hB : B ≤ W.heap.size) : Lm B T W V := ⟨h.mono hB, fun i _ h2 => h.block i h2, .of_below h⟩
theorem Lm.of_grown {B T t k n : Nat} {W V : World} {v : Value} (h : Sh B T t k W v n) (hg : W.grownBy V v.ownBlock) (hm : Mk W V) (hB : B ≤ W.heap.size) : Lm B T W V :=
  ⟨(Below.refl _ _).grown hg hB fun _q e => (h.block e).1, fun i h1 h2 => hg.block i h2 fun e => by have := (h.block e.symm).2; omega, hm⟩
end Go.Proofs.YtlopcjhipajdcaaGreatDoor.Y
