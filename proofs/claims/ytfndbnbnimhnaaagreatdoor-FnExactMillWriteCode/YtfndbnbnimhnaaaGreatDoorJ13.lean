import Derived.Test.YtfndbnbnimhnaaaGreatDoorJ12
/-! What an instruction gives, in the model: what every case starts from. -/
namespace Go.Proofs.YtfndbnbnimhnaaaGreatDoor.C
open Go.RowKit
set_option maxRecDepth 20000
theorem cell_new_row (W : World) (cs : Array Value) (t : TypeId) (j : Nat) : (W.alloc (.cells cs t)).cell? ⟨W.heap.size, j, none⟩ = cs[j]? := cell_hp (heap_alloc_new W _) j
def tp (sk : List Int) : Int := sk.getLastD 0
def bw (sk : List Int) : Int := sk.dropLast.getLastD 0
theorem tp_at {sk : List Int} (h : 0 < sk.length) : sk.getD (sk.length - 1) 0 = tp sk := by
  unfold tp
  cases sk with
  | nil => simp at h
  | cons a r => simp [List.getD_eq_getElem?_getD, List.getLast?_eq_getElem?, List.getLastD_eq_getLast?]
theorem bw_at {sk : List Int} (h : 1 < sk.length) : sk.getD (sk.length - 2) 0 = bw sk := by
  unfold bw
  have hd : sk.dropLast.length = sk.length - 1 := by simp
  have := tp_at (sk := sk.dropLast) (by omega)
  unfold tp at this
  rw [← this, hd]
  simp only [List.getD_eq_getElem?_getD]
  have e : sk.length - 1 - 1 = sk.length - 2 := by omega
  rw [e, List.getElem?_dropLast, if_pos (by omega)]
theorem tp_none {sk : List Int} (h : ¬ 0 < sk.length) : tp sk = 0 := by
  have : sk = [] := List.eq_nil_of_length_eq_zero (by omega)
  rw [this]; rfl
theorem bw_none {sk : List Int} (h : ¬ 1 < sk.length) : bw sk = 0 := by
  have : sk.dropLast = [] := List.eq_nil_of_length_eq_zero (by simp; omega)
  unfold bw; rw [this]; rfl
/-- The last one, and the last two, of what lies there. -/
theorem drop1 {sk : List Int} (h : 1 ≤ sk.length) : (sk.drop (sk.length - 1)).getD 0 0 = tp sk := by
  rw [← tp_at (by omega)]
  simp [List.getD_eq_getElem?_getD]
theorem drop2 {sk : List Int} (h : 2 ≤ sk.length) : (sk.drop (sk.length - 2)).getD 0 0 = bw sk ∧ (sk.drop (sk.length - 2)).getD 1 0 = tp sk := by
  rw [← tp_at (by omega), ← bw_at (by omega)]
  have e : sk.length - 2 + 1 = sk.length - 1 := by omega
  simp [List.getD_eq_getElem?_getD, e]
theorem sig_len (a : Int) : (sig a).1.length ≤ 3 := by unfold sig; (repeat' split) <;> simp
theorem part_tail {W : World} {g q c : Nat} {sk : List Int} (h : q ≤ sk.length) (hg : g < W.heap.size) (hc : ∀ j, j < sk.length → W.cell? ⟨g, j, none⟩ = some (.int .i64 (sk.getD j 0))) : IntPart W (.slice (some ⟨g, sk.length - q, none⟩) q c) (sk.drop (sk.length - q)) := by
  have hl : (sk.drop (sk.length - q)).length = q := by simp; omega
  refine ⟨_, c, by rw [hl], .inr ⟨g, _, rfl, hg, fun i hi => ?_⟩⟩
  rw [hl] at hi
  rw [hc _ (by omega)]
  simp [List.getD_eq_getElem?_getD]
theorem part_tail2 {W : World} {g q c : Nat} {sk : List Int} (h : q ≤ sk.length) (hg : g < W.heap.size) (hlc : sk.length ≤ c) (hc : ∀ j, j < sk.length → W.cell? ⟨g, j, none⟩ = some (.int .i64 (sk.getD j 0))) : IntPart W (.slice (if c = sk.length - q then some ⟨g, 0, none⟩ else some ⟨g, sk.length - q, none⟩) (sk.length - (sk.length - q)) (c - (sk.length - q))) (sk.drop (sk.length - q)) := by
  have e : sk.length - (sk.length - q) = q := by omega
  rw [e]
  split
  · obtain rfl : q = 0 := by omega
    rw [show sk.drop (sk.length - 0) = [] by simp]
    exact ⟨_, _, rfl, .inl rfl⟩
  · exact part_tail h hg hc
theorem built_none {a : Int} {l : List Int} (h : builtG a l = 0) : whn (fitL (sig a).1 l = true) [(sig a).2] = none := by
  unfold builtG at h
  split at h
  · have := sig_range a; omega
  · rename_i hf; exact if_neg hf
theorem built_some {a z : Int} {l : List Int} (h : builtG a l = z) (hz : ¬ z = 0) : whn (fitL (sig a).1 l = true) [(sig a).2] = some [z] := by
  unfold builtG at h
  split at h
  · rename_i hf; rw [← h]; exact if_pos hf
  · exact absurd h.symm hz
theorem part_none {l : List Int} (h : l = []) (W : World) {ad : Option Addr} {m : Nat} (c : Nat) (hm : m = 0) : IntPart W (.slice ad m c) l := by
  subst h hm
  exact ⟨ad, c, rfl, .inl rfl⟩
theorem drop_eq {sk P : List Int} (h : P.length ≤ sk.length) (hs : ∀ i, i < P.length → sk.getD (sk.length - P.length + i) 0 = P.getD i 0) : sk.drop (sk.length - P.length) = P := by
  apply List.ext_getElem (by simp; omega)
  intro i h1 h2
  have := hs i h2
  simp only [List.getD_eq_getElem?_getD, List.getElem?_eq_getElem h2, List.getElem?_eq_getElem (show sk.length - P.length + i < sk.length by omega), Option.getD_some] at this
  simpa using this
theorem drop_at {sk P : List Int} (h : sk.drop (sk.length - P.length) = P) (i : Nat) : sk.getD (sk.length - P.length + i) 0 = P.getD i 0 := by
  have h2 : (sk.drop (sk.length - P.length)).getD i 0 = P.getD i 0 := by rw [h]
  rw [← h2]
  simp [List.getD_eq_getElem?_getD]
/-- What the call answered. -/
def GvEnd (fns : List Fn) (f : Fn) (i : In) (sl sk : List Int) (w : World) (e : Ending) (w' : World) : Prop :=
  Below w.heap.size w w' ∧ ∃ (k : Nat) (ad : Option Addr) (m c : Nat) (ok : Bool), e = .returned (.tuple #[.int .i64 k, .slice ad m c, .bool ok]) ∧ k ≤ 1000 ∧
    (((ok = false ∨ sk.length < k) ∧ (takesN fns i ≤ sk.length → eff fns f i sl (sk.drop (sk.length - takesN fns i)) = none)) ∨
      (ok = true ∧ k = takesN fns i ∧ k ≤ sk.length ∧ ∃ l, eff fns f i sl (sk.drop (sk.length - takesN fns i)) = some l ∧ IntRow w' (.slice ad m c) l))
theorem gv_bad {fns : List Fn} {f : Fn} {i : In} {sl sk : List Int} {w w' : World} {k : Nat} {ad : Option Addr} {m c : Nat} {ok : Bool} (hb : Below w.heap.size w w') (hk : k ≤ 1000) (h1 : ok = false ∨ sk.length < k) (h2 : takesN fns i ≤ sk.length → eff fns f i sl (sk.drop (sk.length - takesN fns i)) = none) : GvEnd fns f i sl sk w (.returned (.tuple #[.int .i64 k, .slice ad m c, .bool ok])) w' :=
  ⟨hb, k, ad, m, c, ok, rfl, hk, .inl ⟨h1, h2⟩⟩
theorem gv_ok {fns : List Fn} {f : Fn} {i : In} {sl sk l : List Int} {w w' : World} {k : Nat} {ad : Option Addr} {m c : Nat} (hb : Below w.heap.size w w') (hk : k ≤ 1000) (h1 : k = takesN fns i) (h2 : k ≤ sk.length) (h3 : eff fns f i sl (sk.drop (sk.length - takesN fns i)) = some l) (h4 : IntRow w' (.slice ad m c) l) : GvEnd fns f i sl sk w (.returned (.tuple #[.int .i64 k, .slice ad m c, .bool true])) w' :=
  ⟨hb, k, ad, m, c, true, rfl, hk, .inr ⟨rfl, h1, h2, l, h3, h4⟩⟩
theorem row1 (W : World) (x : Int) : IntRow (W.alloc (.cells #[.int .i64 x] 3)) (.slice (some ⟨W.heap.size, 0, none⟩) 1 1) [x] := IntRow.lit W [x] (by simp)
theorem row0 (W : World) : IntRow (W.alloc (.cells #[] 3)) (.slice (some ⟨W.heap.size, 0, none⟩) 0 0) [] := IntRow.lit W [] (by simp)
/-- What lies in the four boxes. -/
structure Gx (fns : List Fn) (f : Fn) (i : In) (sl sk : List Int) (w : World) (cv pv iv av bv : Value) (b0 b1 b2 b3 : Nat) (W : World) : Prop where
  lo : Below w.heap.size w W
  c0 : W.cell? ⟨b0, 0, none⟩ = some cv
  f0 : W.cell? ⟨b1, 0, none⟩ = some (.string f.name)
  f1 : W.cell? ⟨b1, 1, none⟩ = some pv
  f2 : W.cell? ⟨b1, 2, none⟩ = some (.int .i64 f.result)
  f3 : W.cell? ⟨b1, 3, none⟩ = some (.int .i64 f.slots)
  f4 : W.cell? ⟨b1, 4, none⟩ = some iv
  i0 : W.cell? ⟨b2, 0, none⟩ = some (.int .i64 i.op)
  i1 : W.cell? ⟨b2, 1, none⟩ = some (.int .i64 i.a)
  i2 : W.cell? ⟨b2, 2, none⟩ = some (.int .i64 i.n)
  i3 : W.cell? ⟨b2, 3, none⟩ = some (.string i.text)
  s0 : W.cell? ⟨b3, 0, none⟩ = some (.int .i64 1)
  s1 : W.cell? ⟨b3, 1, none⟩ = some av
  s2 : W.cell? ⟨b3, 2, none⟩ = some bv
  bl : b0 < W.heap.size ∧ b1 < W.heap.size ∧ b2 < W.heap.size ∧ b3 < W.heap.size
  code : FnsRow W cv fns
  params : IntRow W pv f.params
  ins : InsRow W iv f.ins
  sl_ : IntRow W av sl
  sk_ : IntRow W bv sk
theorem Gx.next {fns : List Fn} {f : Fn} {i : In} {sl sk : List Int} {w : World} {cv pv iv av bv : Value} {b0 b1 b2 b3 : Nat} {W V : World} (h : Gx fns f i sl sk w cv pv iv av bv b0 b1 b2 b3 W) (hb : Below W.heap.size W V) : Gx fns f i sl sk w cv pv iv av bv b0 b1 b2 b3 V := by
  have hz := hb.size
  obtain ⟨z0, z1, z2, z3⟩ := h.bl
  have k0 : ∀ j, V.cell? ⟨b0, j, none⟩ = W.cell? ⟨b0, j, none⟩ := fun j => hb.cell (p := ⟨b0, j, none⟩) z0
  have k1 : ∀ j, V.cell? ⟨b1, j, none⟩ = W.cell? ⟨b1, j, none⟩ := fun j => hb.cell (p := ⟨b1, j, none⟩) z1
  have k2 : ∀ j, V.cell? ⟨b2, j, none⟩ = W.cell? ⟨b2, j, none⟩ := fun j => hb.cell (p := ⟨b2, j, none⟩) z2
  have k3 : ∀ j, V.cell? ⟨b3, j, none⟩ = W.cell? ⟨b3, j, none⟩ := fun j => hb.cell (p := ⟨b3, j, none⟩) z3
  exact ⟨h.lo.trans (hb.mono h.lo.size), (k0 _).trans h.c0, (k1 _).trans h.f0, (k1 _).trans h.f1, (k1 _).trans h.f2, (k1 _).trans h.f3, (k1 _).trans h.f4, (k2 _).trans h.i0, (k2 _).trans h.i1, (k2 _).trans h.i2, (k2 _).trans h.i3, (k3 _).trans h.s0, (k3 _).trans h.s1, (k3 _).trans h.s2, ⟨by omega, by omega, by omega, by omega⟩, h.code.next hb, h.params.next hb, h.ins.next hb, h.sl_.next hb, h.sk_.next hb⟩
theorem boxes {fns : List Fn} {f : Fn} {i : In} {sl sk : List Int} {w : World} {cv pv iv av bv : Value} (h1 : FnsRow w cv fns) (h2 : IntRow w pv f.params) (h3 : InsRow w iv f.ins) (h4 : IntRow w av sl) (h5 : IntRow w bv sk) :
    Gx fns f i sl sk w cv pv iv av bv w.heap.size (w.heap.size + 1) (w.heap.size + 1 + 1) (w.heap.size + 1 + 1 + 1)
      ((((w.alloc (.cells #[cv] 29)).alloc (.cells #[.string f.name, pv, .int .i64 f.result, .int .i64 f.slots, iv] 57)).alloc (.cells #[.int .i64 i.op, .int .i64 i.a, .int .i64 i.n, .string i.text] 84)).alloc (.cells #[.int .i64 1, av, bv] 125)) := by
  obtain ⟨W1, e1⟩ : ∃ W, w.alloc (.cells #[cv] 29) = W := ⟨_, rfl⟩
  obtain ⟨W2, e2⟩ : ∃ W, W1.alloc (.cells #[.string f.name, pv, .int .i64 f.result, .int .i64 f.slots, iv] 57) = W := ⟨_, rfl⟩
  obtain ⟨W3, e3⟩ : ∃ W, W2.alloc (.cells #[.int .i64 i.op, .int .i64 i.a, .int .i64 i.n, .string i.text] 84) = W := ⟨_, rfl⟩
  obtain ⟨W4, e4⟩ : ∃ W, W3.alloc (.cells #[.int .i64 1, av, bv] 125) = W := ⟨_, rfl⟩
  rw [e1, e2, e3, e4]
  have z1 : W1.heap.size = w.heap.size + 1 := by rw [← e1]; simp
  have z2 : W2.heap.size = w.heap.size + 1 + 1 := by rw [← e2]; simp [z1]
  have z3 : W3.heap.size = w.heap.size + 1 + 1 + 1 := by rw [← e3]; simp [z2]
  have z4 : W4.heap.size = w.heap.size + 1 + 1 + 1 + 1 := by rw [← e4]; simp [z3]
  have q1 : Below w.heap.size w W1 := by rw [← e1]; exact (Below.refl _ _).alloc (Nat.le_refl _) _
  have q2 : Below W1.heap.size W1 W2 := by rw [← e2]; exact (Below.refl _ _).alloc (Nat.le_refl _) _
  have q3 : Below W2.heap.size W2 W3 := by rw [← e3]; exact (Below.refl _ _).alloc (Nat.le_refl _) _
  have q4 : Below W3.heap.size W3 W4 := by rw [← e4]; exact (Below.refl _ _).alloc (Nat.le_refl _) _
  have r3 := q3.trans (q4.mono q3.size)
  have r2 := q2.trans (r3.mono q2.size)
  have r1 := q1.trans (r2.mono q1.size)
  have k0 : ∀ j, W4.cell? ⟨w.heap.size, j, none⟩ = #[cv][j]? := fun j => by
    rw [r2.cell (p := ⟨w.heap.size, j, none⟩) (by show w.heap.size < _; omega), ← e1, cell_new_row]
  have k1 : ∀ j, W4.cell? ⟨w.heap.size + 1, j, none⟩ = #[.string f.name, pv, .int .i64 f.result, .int .i64 f.slots, iv][j]? := fun j => by
    rw [← z1, r3.cell (p := ⟨W1.heap.size, j, none⟩) (by show W1.heap.size < _; omega), ← e2, cell_new_row]
  have k2 : ∀ j, W4.cell? ⟨w.heap.size + 1 + 1, j, none⟩ = #[.int .i64 i.op, .int .i64 i.a, .int .i64 i.n, .string i.text][j]? := fun j => by
    rw [← z2, q4.cell (p := ⟨W2.heap.size, j, none⟩) (by show W2.heap.size < _; omega), ← e3, cell_new_row]
  have k3 : ∀ j, W4.cell? ⟨w.heap.size + 1 + 1 + 1, j, none⟩ = #[.int .i64 1, av, bv][j]? := fun j => by
    rw [← z3, ← e4, cell_new_row]
  exact ⟨r1, k0 0, k1 0, k1 1, k1 2, k1 3, k1 4, k2 0, k2 1, k2 2, k2 3, k3 0, k3 1, k3 2, ⟨by omega, by omega, by omega, by omega⟩, h1.next r1, h2.next r1, h3.next r1, h4.next r1, h5.next r1⟩
end Go.Proofs.YtfndbnbnimhnaaaGreatDoor.C
