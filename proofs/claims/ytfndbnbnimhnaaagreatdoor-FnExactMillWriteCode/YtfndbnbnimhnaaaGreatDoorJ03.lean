import Derived.Test.YtfndbnbnimhnaaaGreatDoorJ02
/-! Both ways to the least assignment: rounds until nothing changes, and a work list. Plain mathematics. -/
namespace Go.Proofs.YtfndbnbnimhnaaaGreatDoor.C
/-- What may come to the places behind p, whatever lies where. -/
structure Src (fns : List Fn) (f : Fn) (p : Nat) (s : Sh) : Prop where
  ok : OkSh f.S s
  st : s.st ≠ 0
  low : ∀ F, Closed fns f F → ∀ g ∈ goes (f.ins.getD p in0) p, g < f.ins.length → le s (F g)
theorem Low.src {fns : List Fn} {f : Fn} {A : Nat → Sh} (h : Low fns f A) (hf : FnR fns f) (hF : ∀ g ∈ fns, FnR fns g) {p : Nat} (hp : p < f.ins.length) (h0 : (A p).st ≠ 0) : Src fns f p (behind fns f p (A p)) := by
  refine ⟨behind_ok hf hF hp (h.ok p hp), behind_st _ _ _ _, fun F hFc g hg hgn => ?_⟩
  have hpF := h.low F hFc p hp
  have hF0 : (F p).st ≠ 0 := fun e => by
    rcases hpF with x | x | ⟨_, x, _⟩
    · exact h0 x
    · omega
    · omega
  exact le_trans (behind_mono hf hp (h.ok p hp) hpF h0) (hFc.go p hp hF0 g hg hgn)
theorem upd_at (A : Nat → Sh) (g : Nat) (s : Sh) : upd A g s g = s := by unfold upd; rw [if_pos rfl]
theorem upd_ne (A : Nat → Sh) {g q : Nat} (s : Sh) (h : ¬ q = g) : upd A g s q = A q := by unfold upd; rw [if_neg h]
theorem Low.comes {fns : List Fn} {f : Fn} {A : Nat → Sh} {s : Sh} {p g : Nat} (h : Low fns f A) (hs : Src fns f p s) (hg : g ∈ goes (f.ins.getD p in0) p) (hgn : g < f.ins.length) : Low fns f (upd A g (join (A g) s)) := by
  refine ⟨fun q hq => ?_, fun F hFc q hq => ?_⟩
  · by_cases e : q = g
    · subst e; rw [upd_at]; exact join_ok (h.ok q hq) hs.ok hs.st
    · rw [upd_ne _ _ e]; exact h.ok q hq
  · by_cases e : q = g
    · subst e; rw [upd_at]; exact join_le (h.ok q hq) hs.ok hs.st (h.low F hFc q hq) (hs.low F hFc q hg hq)
    · rw [upd_ne _ _ e]; exact h.low F hFc q hq
/-- All only goes up. -/
theorem up_upd {fns : List Fn} {f : Fn} {A : Nat → Sh} {s : Sh} {p g : Nat} (h : Low fns f A) (hs : Src fns f p s) (hgn : g < f.ins.length) (q : Nat) (hq : q < f.ins.length) : le (A q) (upd A g (join (A g) s) q) := by
  by_cases e : q = g
  · subst e; rw [upd_at]; exact le_join_left (h.ok q hq) hs.ok hs.st
  · rw [upd_ne _ _ e]; exact le_refl (h.ok q hq)
theorem come_le {S : Nat} {a s : Sh} (ha : OkSh S a) (hs : OkSh S s) (h0 : s.st ≠ 0) (h : join a s = a) : le s a := by
  have := le_join_right ha hs h0
  rwa [h] at this
theorem le_first_low {fns : List Fn} {f : Fn} (hf : FnR fns f) : Low fns f (upd (fun _ => bot) 0 (first f)) := by
  refine ⟨fun q hq => ?_, fun F hFc q hq => ?_⟩
  · by_cases e : q = 0
    · subst e; rw [upd_at]; exact first_ok hf
    · rw [upd_ne _ _ e]; exact .inl rfl
  · by_cases e : q = 0
    · subst e; rw [upd_at]; exact hFc.fst
    · rw [upd_ne _ _ e]; exact .inl rfl
/-! Rounds. -/
/-- Inside a round: A0 lay there when it began; places below i are done, and of place i the first k ways. -/
structure RInv (fns : List Fn) (f : Fn) (A0 A : Nat → Sh) (i : Nat) (again : Bool) : Prop where
  low : Low fns f A
  fst : le (first f) (A 0)
  same : again = false → (∀ q, q < f.ins.length → A q = A0 q) ∧ ∀ p, p < i → ClosedAt fns f A p
  less : again = true → tot f.S A f.ins.length < tot f.S A0 f.ins.length
theorem RInv.start {fns : List Fn} {f : Fn} {A : Nat → Sh} (h : Low fns f A) (h1 : le (first f) (A 0)) : RInv fns f A A 0 false := ⟨h, h1, fun _ => ⟨fun _ _ => rfl, fun p hp => absurd hp (Nat.not_lt_zero _)⟩, fun h => by cases h⟩
theorem RInv.skip {fns : List Fn} {f : Fn} {A0 A : Nat → Sh} {i : Nat} {again : Bool} (h : RInv fns f A0 A i again) (h0 : (A i).st = 0) : RInv fns f A0 A (i + 1) again :=
  ⟨h.low, h.fst, fun e => ⟨(h.same e).1, fun p hp => by
    by_cases hi : p = i
    · subst hi; intro hne; exact absurd h0 hne
    · exact (h.same e).2 p (by omega)⟩, h.less⟩
/-- While the ways of place i are gone: s came out of what lay there. -/
structure KInv (fns : List Fn) (f : Fn) (A0 A : Nat → Sh) (i k : Nat) (s : Sh) (again : Bool) : Prop where
  base : RInv fns f A0 A i again
  src : Src fns f i s
  now : again = false → s = behind fns f i (A i)
  did : again = false → ∀ j, j < k → ∀ g, (goes (f.ins.getD i in0) i)[j]? = some g → g < f.ins.length → le s (A g)
theorem RInv.go {fns : List Fn} {f : Fn} {A0 A : Nat → Sh} {i : Nat} {again : Bool} (h : RInv fns f A0 A i again) (hf : FnR fns f) (hF : ∀ g ∈ fns, FnR fns g) (hi : i < f.ins.length) (h0 : (A i).st ≠ 0) : KInv fns f A0 A i 0 (behind fns f i (A i)) again :=
  ⟨h, h.low.src hf hF hi h0, fun _ => rfl, fun _ _j hj => absurd hj (Nat.not_lt_zero _)⟩
theorem KInv.out {fns : List Fn} {f : Fn} {A0 A : Nat → Sh} {i k : Nat} {s : Sh} {again : Bool} (h : KInv fns f A0 A i k s again) {g : Nat} (hg : (goes (f.ins.getD i in0) i)[k]? = some g) (hgn : ¬ g < f.ins.length) : KInv fns f A0 A i (k + 1) s again :=
  ⟨h.base, h.src, h.now, fun e j hj g' hg' hn => by
    by_cases hk : j = k
    · subst hk; rw [hg] at hg'; cases hg'; exact absurd hn hgn
    · exact h.did e j (by omega) g' hg' hn⟩
theorem KInv.same {fns : List Fn} {f : Fn} {A0 A : Nat → Sh} {i k : Nat} {s : Sh} {again : Bool} (h : KInv fns f A0 A i k s again) {g : Nat} (hg : (goes (f.ins.getD i in0) i)[k]? = some g) (hgn : g < f.ins.length) (hj : join (A g) s = A g) : KInv fns f A0 A i (k + 1) s again :=
  ⟨h.base, h.src, h.now, fun e j hj' g' hg' hn => by
    by_cases hk : j = k
    · subst hk; rw [hg] at hg'; cases hg'; exact come_le (h.base.low.ok g hgn) h.src.ok h.src.st hj
    · exact h.did e j (by omega) g' hg' hn⟩
theorem KInv.up {fns : List Fn} {f : Fn} {A0 A : Nat → Sh} {i k : Nat} {s : Sh} {again : Bool} (h : KInv fns f A0 A i k s again) {g : Nat} (hg : (goes (f.ins.getD i in0) i)[k]? = some g) (hgn : g < f.ins.length) (hj : ¬ join (A g) s = A g) : KInv fns f A0 (upd A g (join (A g) s)) i (k + 1) s true := by
  have hmem : g ∈ goes (f.ins.getD i in0) i := List.mem_of_getElem? hg
  have hlow := h.base.low.comes h.src hmem hgn
  have hlt := tot_join (f := f) h.base.low.ok hgn h.src.ok h.src.st hj
  refine ⟨⟨hlow, ?_, (fun e => by cases e), fun _ => ?_⟩, h.src, (fun e => by cases e), (fun e => by cases e)⟩
  · by_cases hn : 0 < f.ins.length
    · exact le_trans h.base.fst (up_upd h.base.low h.src hgn 0 hn)
    · omega
  · cases again with
    | true => have := h.base.less rfl; omega
    | false =>
      have := (h.base.same rfl).1
      rw [← tot_same f.ins.length this]
      exact hlt
theorem KInv.fin {fns : List Fn} {f : Fn} {A0 A : Nat → Sh} {i k : Nat} {s : Sh} {again : Bool} (h : KInv fns f A0 A i k s again) (hk : (goes (f.ins.getD i in0) i).length ≤ k) : RInv fns f A0 A (i + 1) again := by
  refine ⟨h.base.low, h.base.fst, fun e => ⟨(h.base.same e).1, fun p hp => ?_⟩, h.base.less⟩
  by_cases hi : p = i
  · subst hi
    intro _ g hg hgn
    obtain ⟨j, hj, e2⟩ := List.getElem_of_mem hg
    rw [← h.now e]
    exact h.did e j (by omega) g (by rw [List.getElem?_eq_getElem hj, e2]) hgn
  · exact (h.base.same e).2 p (by omega)
theorem RInv.closed {fns : List Fn} {f : Fn} {A0 A : Nat → Sh} (h : RInv fns f A0 A f.ins.length false) : Closed fns f A := ⟨h.low.ok, h.fst, (h.same rfl).2⟩
/-! The work list. -/
structure WInv (fns : List Fn) (f : Fn) (A : Nat → Sh) (wk : List Nat) : Prop where
  low : Low fns f A
  fst : le (first f) (A 0)
  wait : ∀ p, p < f.ins.length → p ∈ wk ∨ ClosedAt fns f A p
  good : ∀ p ∈ wk, p < f.ins.length ∧ (A p).st ≠ 0
  desc : wk.Pairwise (· > ·)
/-- While place p goes on with s. -/
structure GInv (fns : List Fn) (f : Fn) (A : Nat → Sh) (wk : List Nat) (p k : Nat) (s : Sh) : Prop where
  low : Low fns f A
  fst : le (first f) (A 0)
  wait : ∀ q, q < f.ins.length → ¬ q = p → q ∈ wk ∨ ClosedAt fns f A q
  self : p ∈ wk ∨ s = behind fns f p (A p)
  good : ∀ q ∈ wk, q < f.ins.length ∧ (A q).st ≠ 0
  desc : wk.Pairwise (· > ·)
  src : Src fns f p s
  did : ∀ j, j < k → ∀ g, (goes (f.ins.getD p in0) p)[j]? = some g → g < f.ins.length → le s (A g)
theorem WInv.pop {fns : List Fn} {f : Fn} {A : Nat → Sh} {wk : List Nat} {p : Nat} (h : WInv fns f A (wk ++ [p])) (hf : FnR fns f) (hF : ∀ g ∈ fns, FnR fns g) : GInv fns f A wk p 0 (behind fns f p (A p)) ∧ p < f.ins.length ∧ (A p).st ≠ 0 := by
  obtain ⟨hp, hp0⟩ := h.good p (by simp)
  refine ⟨⟨h.low, h.fst, fun q hq hne => ?_, .inr rfl, fun q hq => h.good q (by simp [hq]), (List.pairwise_append.1 h.desc).1, h.low.src hf hF hp hp0, fun j hj => absurd hj (Nat.not_lt_zero _)⟩, hp, hp0⟩
  rcases h.wait q hq with x | x
  · rcases List.mem_append.1 x with x | x
    · exact .inl x
    · simp at x; exact absurd x hne
  · exact .inr x
theorem GInv.out {fns : List Fn} {f : Fn} {A : Nat → Sh} {wk : List Nat} {p k : Nat} {s : Sh} (h : GInv fns f A wk p k s) {g : Nat} (hg : (goes (f.ins.getD p in0) p)[k]? = some g) (hgn : ¬ g < f.ins.length) : GInv fns f A wk p (k + 1) s :=
  ⟨h.low, h.fst, h.wait, h.self, h.good, h.desc, h.src, fun j hj g' hg' hn => by
    by_cases hk : j = k
    · subst hk; rw [hg] at hg'; cases hg'; exact absurd hn hgn
    · exact h.did j (by omega) g' hg' hn⟩
theorem GInv.same {fns : List Fn} {f : Fn} {A : Nat → Sh} {wk : List Nat} {p k : Nat} {s : Sh} (h : GInv fns f A wk p k s) {g : Nat} (hg : (goes (f.ins.getD p in0) p)[k]? = some g) (hgn : g < f.ins.length) (hj : join (A g) s = A g) : GInv fns f A wk p (k + 1) s :=
  ⟨h.low, h.fst, h.wait, h.self, h.good, h.desc, h.src, fun j hj' g' hg' hn => by
    by_cases hk : j = k
    · subst hk; rw [hg] at hg'; cases hg'; exact come_le (h.low.ok g hgn) h.src.ok h.src.st hj
    · exact h.did j (by omega) g' hg' hn⟩
/-- The work list with a place in it, once. -/
def ins1 (wk : List Nat) (g : Nat) : List Nat := wk.filter (fun q => decide (g < q)) ++ g :: wk.filter (fun q => decide (q < g))
theorem mem_ins1 {wk : List Nat} {g q : Nat} : q ∈ ins1 wk g ↔ q = g ∨ q ∈ wk := by
  unfold ins1
  simp only [List.mem_append, List.mem_filter, List.mem_cons, decide_eq_true_eq]
  constructor
  · rintro (⟨h, _⟩ | h | ⟨h, _⟩)
    · exact .inr h
    · exact .inl h
    · exact .inr h
  · rintro (h | h)
    · exact .inr (.inl h)
    · rcases Nat.lt_trichotomy q g with x | x | x
      · exact .inr (.inr ⟨h, x⟩)
      · exact .inr (.inl x)
      · exact .inl ⟨h, x⟩
theorem desc_ins1 {wk : List Nat} {g : Nat} (h : wk.Pairwise (· > ·)) : (ins1 wk g).Pairwise (· > ·) := by
  unfold ins1
  refine List.pairwise_append.2 ⟨h.filter _, List.pairwise_cons.2 ⟨fun q hq => ?_, h.filter _⟩, fun a ha b hb => ?_⟩
  · have := (List.mem_filter.1 hq).2
    simpa using this
  · have h1 := (List.mem_filter.1 ha).2
    simp at h1
    rcases List.mem_cons.1 hb with rfl | hb
    · exact h1
    · have h2 := (List.mem_filter.1 hb).2
      simp at h2
      omega
theorem GInv.up {fns : List Fn} {f : Fn} {A : Nat → Sh} {wk : List Nat} {p k : Nat} {s : Sh} (h : GInv fns f A wk p k s) {g : Nat} (hg : (goes (f.ins.getD p in0) p)[k]? = some g) (hgn : g < f.ins.length) (hj : ¬ join (A g) s = A g) : GInv fns f (upd A g (join (A g) s)) (ins1 wk g) p (k + 1) s ∧ tot f.S (upd A g (join (A g) s)) f.ins.length < tot f.S A f.ins.length := by
  have hmem : g ∈ goes (f.ins.getD p in0) p := List.mem_of_getElem? hg
  have hlow := h.low.comes h.src hmem hgn
  have hup := up_upd h.low h.src hgn
  have hj0 : (join (A g) s).st ≠ 0 := fun e => by
    have := le_join_right (h.low.ok g hgn) h.src.ok h.src.st
    rcases this with x | x | ⟨_, x, _⟩
    · exact h.src.st x
    · omega
    · omega
  refine ⟨⟨hlow, ?_, fun q hq hne => ?_, ?_, fun q hq => ?_, desc_ins1 h.desc, h.src, fun j hj' g' hg' hn => ?_⟩, tot_join (f := f) h.low.ok hgn h.src.ok h.src.st hj⟩
  · exact le_trans h.fst (hup 0 (by omega))
  · by_cases e : q = g
    · exact .inl (mem_ins1.2 (.inl e))
    · rcases h.wait q hq hne with x | x
      · exact .inl (mem_ins1.2 (.inr x))
      · refine .inr fun h0 g' hg' hn => ?_
        rw [upd_ne _ _ e] at h0 ⊢
        exact le_trans (x h0 g' hg' hn) (hup g' hn)
  · by_cases e : p = g
    · exact .inl (mem_ins1.2 (.inl e))
    · rcases h.self with x | x
      · exact .inl (mem_ins1.2 (.inr x))
      · right; rw [upd_ne _ _ e]; exact x
  · rcases mem_ins1.1 hq with rfl | hq
    · exact ⟨hgn, by rw [upd_at]; exact hj0⟩
    · by_cases e : q = g
      · subst e; exact ⟨hgn, by rw [upd_at]; exact hj0⟩
      · rw [upd_ne _ _ e]; exact h.good q hq
  · by_cases hk : j = k
    · subst hk; rw [hg] at hg'; cases hg'
      rw [upd_at]
      exact le_join_right (h.low.ok g hgn) h.src.ok h.src.st
    · exact le_trans (h.did j (by omega) g' hg' hn) (hup g' hn)
theorem GInv.fin {fns : List Fn} {f : Fn} {A : Nat → Sh} {wk : List Nat} {p k : Nat} {s : Sh} (h : GInv fns f A wk p k s) (hk : (goes (f.ins.getD p in0) p).length ≤ k) : WInv fns f A wk := by
  refine ⟨h.low, h.fst, fun q hq => ?_, h.good, h.desc⟩
  by_cases e : q = p
  · subst e
    rcases h.self with x | x
    · exact .inl x
    · refine .inr fun _ g hg hgn => ?_
      obtain ⟨j, hj, e2⟩ := List.getElem_of_mem hg
      rw [← x]
      exact h.did j (by omega) g (by rw [List.getElem?_eq_getElem hj, e2]) hgn
  · exact h.wait q hq e
theorem WInv.closed {fns : List Fn} {f : Fn} {A : Nat → Sh} (h : WInv fns f A []) : Closed fns f A := ⟨h.low.ok, h.fst, fun p hp => (h.wait p hp).resolve_left (by simp)⟩
theorem WInv.start {fns : List Fn} {f : Fn} (hf : FnR fns f) : WInv fns f (upd (fun _ => bot) 0 (first f)) [0] := by
  refine ⟨le_first_low hf, by rw [upd_at]; exact le_refl (first_ok hf), fun p hp => ?_, fun p hp => ?_, by simp⟩
  · by_cases e : p = 0
    · left; simp [e]
    · right; intro h0; rw [upd_ne _ _ e] at h0; exact absurd rfl h0
  · simp at hp
    subst hp
    exact ⟨by have := hf.some_; omega, by rw [upd_at]; simp [first]⟩
end Go.Proofs.YtfndbnbnimhnaaaGreatDoor.C
/-! Valid values: the model's answer and the program's. -/
namespace Go.Proofs.YtfndbnbnimhnaaaGreatDoor.V
open Go.RowKit Go.Shelf
set_option maxRecDepth 20000
theorem notEmpty (s : ByteArray) (hp : 0 < s.size) : s.toList.isEmpty = false := by
  rw [Lib.toList_data]
  match s, hp with
  | ⟨⟨c :: r⟩⟩, _ => rfl
  | ⟨⟨[]⟩⟩, h => exact absurd h (by decide)
theorem size_zero {s : ByteArray} (h : s.size = 0) : s = ⟨#[]⟩ := by
  match s, h with
  | ⟨⟨[]⟩⟩, _ => rfl
  | ⟨⟨c :: r⟩⟩, h => exact absurd h (by simp [ByteArray.size])
/-- Which values are valid. -/
def validB (t n : Int) (s : ByteArray) : Bool :=
  if t = 1 then decide (s.size = 0) && decide (n = 0 ∨ n = 1)
  else if t = 2 then decide (n = 0) && decide (s.size ≤ 3000)
  else decide (3 ≤ t) && decide (t ≤ 10) && decide (s.size = 0) && decide (n = into t n)
abbrev val (t n : Int) (s : ByteArray) : Value := .agg #[.int .i64 t, .int .i64 n, .string s]
theorem u64_bd (n : Int) : 0 ≤ IntKind.u64.wrap n ∧ IntKind.u64.wrap n ≤ 18446744073709551615 := by
  simp [IntKind.wrap, IntKind.bits, IntKind.signed]; omega
theorem into_u64 (t n : Int) : into t (IntKind.u64.wrap n) = into t n := intoK_u64 _ _
theorem valid_int {t n : Int} {s : ByteArray} (h1 : 3 ≤ t) (h2 : t ≤ 10) : validB t n s = (decide (s.size = 0) && decide (n = into t n)) := by
  unfold validB
  rw [if_neg (by omega), if_neg (by omega)]
  simp [h1, h2]
theorem valid_out {t n : Int} {s : ByteArray} (h0 : t ≠ 1) (h1 : t ≠ 2) (h2 : ¬ (3 ≤ t ∧ t ≤ 10)) : validB t n s = false := by
  unfold validB
  rw [if_neg h0, if_neg h1]
  have : (decide (3 ≤ t) && decide (t ≤ 10)) = false := by
    rw [Bool.eq_false_iff]; simpa using fun h => Int.not_le.1 fun k => h2 ⟨h, k⟩
  rw [this]; rfl
theorem alloc_below (w : World) (o : Obj) : Below w.heap.size w (w.alloc o) := (Below.refl _ _).alloc (Nat.le_refl _) o
theorem alloc_drew (w : World) (o : Obj) : Below w.heap.size w (w.alloc o).drew := (alloc_below w o).drew
theorem isInt_t {t : Int} (h3 : 3 ≤ t) (h4 : t ≤ 10) : (decide (3 ≤ t) && decide (t ≤ 10)) = true := by simp [h3, h4]
theorem isInt_f {t : Int} (h3 : ¬ (3 ≤ t ∧ t ≤ 10)) : (decide (3 ≤ t) && decide (t ≤ 10)) = false := by
  rw [Bool.eq_false_iff]; simpa using fun h => Int.not_le.1 fun k => h3 ⟨h, k⟩
set_option maxHeartbeats 1000000 in
theorem specVV1 (n : Int) (s : ByteArray) (w : World) :
    Calls Tryz.prog 108 #[val 1 n s] w fun e w' => e = .returned (.bool (validB 1 n s)) ∧ Below w.heap.size w w' := by
  by_cases hs : s.size = 0
  · obtain rfl := size_zero hs
    clear hs
    by_cases h0 : n = 0
    · subst h0
      go_enter Tryz.func108, Tryz.ntmps108
      go_wp2
      go_ret
      exact ⟨rfl, by first | exact alloc_below _ _ | exact alloc_drew _ _⟩
    · by_cases h1 : n = 1
      · subst h1
        clear h0
        go_enter Tryz.func108, Tryz.ntmps108
        go_wp2
        go_ret
        exact ⟨rfl, by first | exact alloc_below _ _ | exact alloc_drew _ _⟩
      · have HN : Hid (validB 1 n ⟨#[]⟩ = false) := by show _ = _; simp [validB, h0, h1]
        go_enter Tryz.func108, Tryz.ntmps108
        go_wp2
        go_ret
        exact ⟨ret_bool (by rw [HN.out]; try simp [h0, h1]), by first | exact alloc_below _ _ | exact alloc_drew _ _⟩
  · have hs2 := notEmpty s (by omega)
    have HN : Hid (validB 1 n s = false) := by show _ = _; simp [validB, hs]
    clear hs
    by_cases h0 : n = 0
    · subst h0
      go_enter Tryz.func108, Tryz.ntmps108
      go_wp2
      go_ret
      exact ⟨ret_bool (by rw [HN.out]), by first | exact alloc_below _ _ | exact alloc_drew _ _⟩
    · go_enter Tryz.func108, Tryz.ntmps108
      go_wp2
      all_goals go_ret
      all_goals exact ⟨ret_bool (by rw [HN.out]), by first | exact alloc_below _ _ | exact alloc_drew _ _⟩
set_option maxHeartbeats 1000000 in
theorem specVV2 (n : Int) (s : ByteArray) (w : World) :
    Calls Tryz.prog 108 #[val 2 n s] w fun e w' => e = .returned (.bool (validB 2 n s)) ∧ Below w.heap.size w w' := by
  by_cases h0 : n = 0
  · subst h0
    by_cases hs : s.size ≤ 3000
    · have HN : Hid (validB 2 0 s = true) := by show _ = _; simp [validB, hs]
      go_enter Tryz.func108, Tryz.ntmps108
      go_wp2
      go_ret
      exact ⟨ret_bool (by rw [HN.out]; simp; omega), by first | exact alloc_below _ _ | exact alloc_drew _ _⟩
    · have HN : Hid (validB 2 0 s = false) := by show _ = _; simp [validB, hs]
      go_enter Tryz.func108, Tryz.ntmps108
      go_wp2
      go_ret
      exact ⟨ret_bool (by rw [HN.out]; simp; omega), by first | exact alloc_below _ _ | exact alloc_drew _ _⟩
  · have HN : Hid (validB 2 n s = false) := by show _ = _; simp [validB, h0]
    go_enter Tryz.func108, Tryz.ntmps108
    go_wp2
    go_ret
    exact ⟨ret_bool (by rw [HN.out]), by first | exact alloc_below _ _ | exact alloc_drew _ _⟩
set_option maxHeartbeats 1000000 in
theorem implVV1 (n : Int) (s : ByteArray) (w : World) :
    Calls Tryz.prog 120 #[val 1 n s] w fun e w' => e = .returned (.bool (validB 1 n s)) ∧ Below w.heap.size w w' := by
  by_cases hs : s.size = 0
  · obtain rfl := size_zero hs
    clear hs
    by_cases h0 : n = 0
    · subst h0
      go_enter Tryz.func120, Tryz.ntmps120
      go_wp2
      go_ret
      exact ⟨rfl, by first | exact alloc_below _ _ | exact alloc_drew _ _⟩
    · by_cases h1 : n = 1
      · subst h1
        clear h0
        go_enter Tryz.func120, Tryz.ntmps120
        go_wp2
        go_ret
        exact ⟨rfl, by first | exact alloc_below _ _ | exact alloc_drew _ _⟩
      · have HN : Hid (validB 1 n ⟨#[]⟩ = false) := by show _ = _; simp [validB, h0, h1]
        go_enter Tryz.func120, Tryz.ntmps120
        go_wp2
        go_ret
        exact ⟨ret_bool (by rw [HN.out]; try simp [h0, h1]), by first | exact alloc_below _ _ | exact alloc_drew _ _⟩
  · have hs2 := notEmpty s (by omega)
    have HN : Hid (validB 1 n s = false) := by show _ = _; simp [validB, hs]
    clear hs
    by_cases h0 : n = 0
    · subst h0
      go_enter Tryz.func120, Tryz.ntmps120
      go_wp2
      go_ret
      exact ⟨ret_bool (by rw [HN.out]), by first | exact alloc_below _ _ | exact alloc_drew _ _⟩
    · go_enter Tryz.func120, Tryz.ntmps120
      go_wp2
      all_goals go_ret
      all_goals exact ⟨ret_bool (by rw [HN.out]), by first | exact alloc_below _ _ | exact alloc_drew _ _⟩
set_option maxHeartbeats 1000000 in
theorem implVV2 (n : Int) (s : ByteArray) (w : World) :
    Calls Tryz.prog 120 #[val 2 n s] w fun e w' => e = .returned (.bool (validB 2 n s)) ∧ Below w.heap.size w w' := by
  by_cases h0 : n = 0
  · subst h0
    by_cases hs : s.size ≤ 3000
    · have HN : Hid (validB 2 0 s = true) := by show _ = _; simp [validB, hs]
      go_enter Tryz.func120, Tryz.ntmps120
      go_wp2
      go_ret
      exact ⟨ret_bool (by rw [HN.out]; simp; omega), by first | exact alloc_below _ _ | exact alloc_drew _ _⟩
    · have HN : Hid (validB 2 0 s = false) := by show _ = _; simp [validB, hs]
      go_enter Tryz.func120, Tryz.ntmps120
      go_wp2
      go_ret
      exact ⟨ret_bool (by rw [HN.out]; simp; omega), by first | exact alloc_below _ _ | exact alloc_drew _ _⟩
  · have HN : Hid (validB 2 n s = false) := by show _ = _; simp [validB, h0]
    go_enter Tryz.func120, Tryz.ntmps120
    go_wp2
    go_ret
    exact ⟨ret_bool (by rw [HN.out]), by first | exact alloc_below _ _ | exact alloc_drew _ _⟩
theorem l10Integer_t (t : Int) (h3 : 3 ≤ t) (h4 : t ≤ 10) (w : World) : Calls Tryz.prog 109 #[.int .i64 t] w fun e w' => e = .returned (.bool true) ∧ w' = w := by
  have := l10Integer_any t w
  rwa [isInt_t h3 h4] at this
theorem l10Integer_f (t : Int) (h3 : ¬ (3 ≤ t ∧ t ≤ 10)) (w : World) : Calls Tryz.prog 109 #[.int .i64 t] w fun e w' => e = .returned (.bool false) ∧ w' = w := by
  have := l10Integer_any t w
  rwa [isInt_f h3] at this
theorem millIsInteger_t (t : Int) (h3 : 3 ≤ t) (h4 : t ≤ 10) (w : World) : Calls Tryz.prog 141 #[.int .i64 t] w fun e w' => e = .returned (.bool true) ∧ w' = w := by
  have := millIsInteger_any t w
  rwa [isInt_t h3 h4] at this
theorem millIsInteger_f (t : Int) (h3 : ¬ (3 ≤ t ∧ t ≤ 10)) (w : World) : Calls Tryz.prog 141 #[.int .i64 t] w fun e w' => e = .returned (.bool false) ∧ w' = w := by
  have := millIsInteger_any t w
  rwa [isInt_f h3] at this
theorem alloc_drewN (w : World) (o : Obj) (n : Nat) : Below w.heap.size w ((w.alloc o).drewN n) := (alloc_below w o).trans ⟨rfl, rfl, rfl, Nat.le_refl _, fun _ _ => rfl⟩
theorem into_n (t n : Int) (h3 : 3 ≤ t) (h4 : t ≤ 10) (W : World) : Calls Tryz.prog 137 #[.int .i64 t, .int .u64 (IntKind.u64.wrap n)] W fun e w' => e = .returned (.int .i64 (into t n)) ∧ w' = W := by
  have := l13Into_any t _ h3 h4 (u64_bd n).1 (u64_bd n).2 W
  rwa [into_u64] at this
set_option maxHeartbeats 400000 in
theorem taken_u8 (n : Int) (_h1 : -9223372036854775808 ≤ n) (_h2 : n ≤ 9223372036854775807) (w : World) :
    Calls Tryz.prog 157 #[.int .i64 n] w fun e w' => e = .returned (.int .i64 (intoK .u8 n)) ∧ w' = w := by
  go_enter Tryz.func157, Tryz.ntmps157
  go_wp2
  go_ret
  exact ⟨ret_int (by simp [intoK, IntKind.wrap, IntKind.bits, IntKind.signed] <;> omega), rfl⟩
set_option maxHeartbeats 400000 in
theorem taken_u16 (n : Int) (_h1 : -9223372036854775808 ≤ n) (_h2 : n ≤ 9223372036854775807) (w : World) :
    Calls Tryz.prog 158 #[.int .i64 n] w fun e w' => e = .returned (.int .i64 (intoK .u16 n)) ∧ w' = w := by
  go_enter Tryz.func158, Tryz.ntmps158
  go_wp2
  go_ret
  exact ⟨ret_int (by simp [intoK, IntKind.wrap, IntKind.bits, IntKind.signed, wrap64] <;> omega), rfl⟩
set_option maxHeartbeats 400000 in
theorem taken_u32 (n : Int) (_h1 : -9223372036854775808 ≤ n) (_h2 : n ≤ 9223372036854775807) (w : World) :
    Calls Tryz.prog 159 #[.int .i64 n] w fun e w' => e = .returned (.int .i64 (intoK .u32 n)) ∧ w' = w := by
  go_enter Tryz.func159, Tryz.ntmps159
  go_wp2
  go_ret
  exact ⟨ret_int (by simp [intoK, IntKind.wrap, IntKind.bits, IntKind.signed] <;> omega), rfl⟩
set_option maxHeartbeats 400000 in
theorem taken_i8 (n : Int) (_h1 : -9223372036854775808 ≤ n) (_h2 : n ≤ 9223372036854775807) (w : World) :
    Calls Tryz.prog 160 #[.int .i64 n] w fun e w' => e = .returned (.int .i64 (intoK .i8 n)) ∧ w' = w := by
  go_enter Tryz.func160, Tryz.ntmps160
  go_wp2
  go_ret
  exact ⟨ret_int (by simp [intoK, IntKind.wrap, IntKind.bits, IntKind.signed, wrap64] <;> omega), rfl⟩
set_option maxHeartbeats 400000 in
theorem taken_i16 (n : Int) (_h1 : -9223372036854775808 ≤ n) (_h2 : n ≤ 9223372036854775807) (w : World) :
    Calls Tryz.prog 161 #[.int .i64 n] w fun e w' => e = .returned (.int .i64 (intoK .i16 n)) ∧ w' = w := by
  go_enter Tryz.func161, Tryz.ntmps161
  go_wp2
  go_ret
  exact ⟨ret_int (by simp [intoK, IntKind.wrap, IntKind.bits, IntKind.signed, wrap64] <;> omega), rfl⟩
set_option maxHeartbeats 400000 in
theorem taken_i32 (n : Int) (_h1 : -9223372036854775808 ≤ n) (_h2 : n ≤ 9223372036854775807) (w : World) :
    Calls Tryz.prog 162 #[.int .i64 n] w fun e w' => e = .returned (.int .i64 (intoK .i32 n)) ∧ w' = w := by
  go_enter Tryz.func162, Tryz.ntmps162
  go_wp2
  go_ret
  exact ⟨ret_int (by simp [intoK, IntKind.wrap, IntKind.bits, IntKind.signed, wrap64, wrap32] <;> omega), rfl⟩
set_option maxHeartbeats 1000000 in
theorem millInto_any (t n : Int) (h3 : 3 ≤ t) (h4 : t ≤ 10) (h1 : -9223372036854775808 ≤ n) (h2 : n ≤ 9223372036854775807) (w : World) :
    Calls Tryz.prog 142 #[.int .i64 t, .int .i64 n] w fun e w' => e = .returned (.int .i64 (into t n)) ∧ w' = w := by
  have H6 : Hid (into 6 n = n) := by show _ = _; simp [into, intoK, kT6, IntKind.wrap, IntKind.bits, IntKind.signed]; omega
  have H10 : Hid (into 10 n = n) := by show _ = _; simp [into, intoK, kT10, IntKind.wrap, IntKind.bits, IntKind.signed]; omega
  obtain rfl | rfl | rfl | rfl | rfl | rfl | rfl | rfl := typ8 h3 h4
  all_goals clear h3 h4
  all_goals go_enter Tryz.func142, Tryz.ntmps142
  all_goals go_wp2_with (first
    | (go_at_call 157; refine (taken_u8 n h1 h2 _).mono ?_; rintro e w' ⟨rfl, rfl⟩)
    | (go_at_call 158; refine (taken_u16 n h1 h2 _).mono ?_; rintro e w' ⟨rfl, rfl⟩)
    | (go_at_call 159; refine (taken_u32 n h1 h2 _).mono ?_; rintro e w' ⟨rfl, rfl⟩)
    | (go_at_call 160; refine (taken_i8 n h1 h2 _).mono ?_; rintro e w' ⟨rfl, rfl⟩)
    | (go_at_call 161; refine (taken_i16 n h1 h2 _).mono ?_; rintro e w' ⟨rfl, rfl⟩)
    | (go_at_call 162; refine (taken_i32 n h1 h2 _).mono ?_; rintro e w' ⟨rfl, rfl⟩)
    | fail)
  all_goals go_ret
  all_goals (first | exact ⟨rfl, rfl⟩ | exact ⟨ret_int H6.out.symm, rfl⟩ | exact ⟨ret_int H10.out.symm, rfl⟩)
set_option maxHeartbeats 1000000 in
theorem specVV3 (t n : Int) (s : ByteArray) (h3 : 3 ≤ t) (h4 : t ≤ 10) (_hn1 : -9223372036854775808 ≤ n) (_hn2 : n ≤ 9223372036854775807) (w : World) :
    Calls Tryz.prog 108 #[val t n s] w fun e w' => e = .returned (.bool (validB t n s)) ∧ Below w.heap.size w w' := by
  have HV := hid (valid_int (n := n) (s := s) h3 h4)
  have h1 : ¬ t = 1 := by omega
  have h2 : ¬ t = 2 := by omega
  by_cases hs : s.size = 0
  · obtain rfl := size_zero hs
    clear hs
    go_enter Tryz.func108, Tryz.ntmps108
    try (go_wp2_with (first | (go_at_call 109; refine (l10Integer_t t h3 h4 _).mono ?_; rintro e w' ⟨rfl, hw⟩; have hw2 := hw.symm; clear hw; subst hw2) | fail))
    go_quiet (first | (go_at_call 109; exact Calls.quiet_of_same (l10Integer_t t h3 h4 _)) | (go_at_call 137; exact Calls.quiet_of_same (into_n t n h3 h4 _)) | fail)
    go_wp2
    go_ret
    exact ⟨ret_bool (by rw [HV.out, Bool.eq_iff_iff]; simp; exact fun _ => rfl), alloc_drewN _ _ _⟩
  · have hs2 := notEmpty s (by omega)
    have HS : Hid (decide (s.size = 0) = false) := decide_eq_false hs
    clear hs
    go_enter Tryz.func108, Tryz.ntmps108
    try (go_wp2_with (first | (go_at_call 109; refine (l10Integer_t t h3 h4 _).mono ?_; rintro e w' ⟨rfl, hw⟩; have hw2 := hw.symm; clear hw; subst hw2) | fail))
    go_quiet (first | (go_at_call 109; exact Calls.quiet_of_same (l10Integer_t t h3 h4 _)) | fail)
    go_wp2
    go_ret
    exact ⟨ret_bool (by rw [HV.out, HS.out]; rfl), alloc_drewN _ _ _⟩
set_option maxHeartbeats 1000000 in
theorem specVV0 (t n : Int) (s : ByteArray) (h1 : t ≠ 1) (h2 : t ≠ 2) (h3 : ¬ (3 ≤ t ∧ t ≤ 10)) (w : World) :
    Calls Tryz.prog 108 #[val t n s] w fun e w' => e = .returned (.bool (validB t n s)) ∧ Below w.heap.size w w' := by
  have HV := hid (valid_out (n := n) (s := s) h1 h2 h3)
  have H3 := hid h3
  clear h3
  go_enter Tryz.func108, Tryz.ntmps108
  try (go_wp2_with (first | (go_at_call 109; refine (l10Integer_f t H3.out _).mono ?_; rintro e w' ⟨rfl, hw⟩; have hw2 := hw.symm; clear hw; subst hw2) | fail))
  try (go_quiet (first | (go_at_call 109; exact Calls.quiet_of_same (l10Integer_f t H3.out _)) | fail); go_wp2)
  go_ret
  exact ⟨ret_bool (by rw [HV.out]), by first | exact alloc_drewN _ _ _ | exact alloc_below _ _ | exact alloc_drew _ _⟩
theorem specVV (t n : Int) (s : ByteArray) (hn1 : -9223372036854775808 ≤ n) (hn2 : n ≤ 9223372036854775807) (w : World) :
    Calls Tryz.prog 108 #[val t n s] w fun e w' => e = .returned (.bool (validB t n s)) ∧ Below w.heap.size w w' := by
  by_cases h1 : t = 1
  · subst h1; exact specVV1 n s w
  · by_cases h2 : t = 2
    · subst h2; exact specVV2 n s w
    · by_cases h3 : 3 ≤ t ∧ t ≤ 10
      · exact specVV3 t n s h3.1 h3.2 hn1 hn2 w
      · exact specVV0 t n s h1 h2 h3 w
set_option maxHeartbeats 1000000 in
theorem implVV3 (t n : Int) (s : ByteArray) (h3 : 3 ≤ t) (h4 : t ≤ 10) (hn1 : -9223372036854775808 ≤ n) (hn2 : n ≤ 9223372036854775807) (w : World) :
    Calls Tryz.prog 120 #[val t n s] w fun e w' => e = .returned (.bool (validB t n s)) ∧ Below w.heap.size w w' := by
  have HV := hid (valid_int (n := n) (s := s) h3 h4)
  have h1 : ¬ t = 1 := by omega
  have h2 : ¬ t = 2 := by omega
  by_cases hs : s.size = 0
  · obtain rfl := size_zero hs
    clear hs
    go_enter Tryz.func120, Tryz.ntmps120
    try (go_wp2_with (first | (go_at_call 141; refine (millIsInteger_t t h3 h4 _).mono ?_; rintro e w' ⟨rfl, hw⟩; have hw2 := hw.symm; clear hw; subst hw2) | fail))
    go_quiet (first | (go_at_call 141; exact Calls.quiet_of_same (millIsInteger_t t h3 h4 _)) | (go_at_call 142; exact Calls.quiet_of_same (millInto_any t n h3 h4 hn1 hn2 _)) | fail)
    go_wp2
    go_ret
    exact ⟨ret_bool (by rw [HV.out, Bool.eq_iff_iff]; simp; exact fun _ => rfl), alloc_drewN _ _ _⟩
  · have hs2 := notEmpty s (by omega)
    have HS : Hid (decide (s.size = 0) = false) := decide_eq_false hs
    clear hs
    go_enter Tryz.func120, Tryz.ntmps120
    try (go_wp2_with (first | (go_at_call 141; refine (millIsInteger_t t h3 h4 _).mono ?_; rintro e w' ⟨rfl, hw⟩; have hw2 := hw.symm; clear hw; subst hw2) | fail))
    go_quiet (first | (go_at_call 141; exact Calls.quiet_of_same (millIsInteger_t t h3 h4 _)) | fail)
    go_wp2
    go_ret
    exact ⟨ret_bool (by rw [HV.out, HS.out]; rfl), alloc_drewN _ _ _⟩
set_option maxHeartbeats 1000000 in
theorem implVV0 (t n : Int) (s : ByteArray) (h1 : t ≠ 1) (h2 : t ≠ 2) (h3 : ¬ (3 ≤ t ∧ t ≤ 10)) (w : World) :
    Calls Tryz.prog 120 #[val t n s] w fun e w' => e = .returned (.bool (validB t n s)) ∧ Below w.heap.size w w' := by
  have HV := hid (valid_out (n := n) (s := s) h1 h2 h3)
  have H3 := hid h3
  clear h3
  go_enter Tryz.func120, Tryz.ntmps120
  try (go_wp2_with (first | (go_at_call 141; refine (millIsInteger_f t H3.out _).mono ?_; rintro e w' ⟨rfl, hw⟩; have hw2 := hw.symm; clear hw; subst hw2) | fail))
  try (go_quiet (first | (go_at_call 141; exact Calls.quiet_of_same (millIsInteger_f t H3.out _)) | fail); go_wp2)
  go_ret
  exact ⟨ret_bool (by rw [HV.out]), by first | exact alloc_drewN _ _ _ | exact alloc_below _ _ | exact alloc_drew _ _⟩
theorem implVV (t n : Int) (s : ByteArray) (hn1 : -9223372036854775808 ≤ n) (hn2 : n ≤ 9223372036854775807) (w : World) :
    Calls Tryz.prog 120 #[val t n s] w fun e w' => e = .returned (.bool (validB t n s)) ∧ Below w.heap.size w w' := by
  by_cases h1 : t = 1
  · subst h1; exact implVV1 n s w
  · by_cases h2 : t = 2
    · subst h2; exact implVV2 n s w
    · by_cases h3 : 3 ≤ t ∧ t ≤ 10
      · exact implVV3 t n s h3.1 h3.2 hn1 hn2 w
      · exact implVV0 t n s h1 h2 h3 w
end Go.Proofs.YtfndbnbnimhnaaaGreatDoor.V
