import Derived.Deep.DeepCutAuto
import Derived.Test.YtbakebdfmdepnaaGreatDoorJ31
import Derived.Test.YtbakebdfmdepnaaGreatDoorJ22
namespace Go.Proofs.YtbakebdfmdepnaaGreatDoor
open Go.RowKit
set_option maxRecDepth 20000
theorem Gd.lo {B : Nat} {w w' : World} (h : Gd B w w') : Below B w w' := ⟨h.os, h.tape, h.output, h.size, h.low⟩
theorem GS.start {R p : Nat} {w : World} (h : Rd R w p) (x : Nat) (hx : x ≤ 100) : GS R w.heap.size [] [] (p + 1) (w.alloc (.cells #[.pointer (some ⟨R, 0, none⟩), .slice none 0 0, .slice none 0 0, .int .i64 0, .int .i64 (20 + x)] 108)) :=
 ⟨0, 20 + x, p, ⟨⟨.slice none 0 0, .slice none 0 0, heap_alloc_new w _, ⟨rfl, .inl ⟨rfl, rfl⟩⟩, ⟨rfl, .inl ⟨rfl, rfl⟩⟩⟩, h.next ((Below.refl _ _).alloc (Nat.le_refl _) _), ⟨Nat.le_refl _, h.lt⟩, fun y hy => (nomatch hy), fun y hy => (nomatch hy)⟩, by omega, by omega, by omega, by omega⟩
set_option maxHeartbeats 4000000 in
theorem prog_any (R p : Nat) (w : World) (h : Rd R w p) (hp : p ≤ 1000) :
  Calls Tryz.prog 33 #[.pointer (some ⟨R, 0, none⟩)] w fun e w2 => ∃ g n c, e = .returned (.agg #[.slice (some ⟨g, 0, none⟩) n c]) ∧ Has 3100 w2 (.slice (some ⟨g, 0, none⟩) n c) ∧ (∃ p', p' ≤ p + 40000 ∧ Rd R w2 p') ∧ BR R w w2 := by
 have HB0 := hid ((Below.refl w.heap.size w).alloc (Nat.le_refl _) (.cells #[.slice none 0 0] 25))
 have HBX := hid (heap_alloc_new w (.cells #[.slice none 0 0] 25))
 have HR := hid (h.next HB0.out)
 have hRl := h.lt
 clear h
 go_enter Tryz.func33, Tryz.ntmps33
 go_wp2_with fail
 refine (pick_any R p 80 _ (by omega) (by omega) HR.out).mono ?_
 rintro e w1 ⟨⟨x1, rfl, hx1⟩, r1, s1⟩
 obtain ⟨rb, hrb⟩ : ∃ g, w.heap.size = g := ⟨_, rfl⟩
 have hb1 := (s1.block w.heap.size (by simp) (by show ¬ w.heap.size = R; omega)).trans HBX.out
 rw [hrb] at hb1
 have HB1 := hid hb1
 have HS1 := hid s1
 have HR1 := hid r1
 have hrb1 : rb < w1.heap.size := (Array.getElem?_eq_some_iff.1 hb1).1
 clear hb1 s1 r1 HR
 have hw1 : IntKind.i64.wrap (20 + (x1 : Int)) = 20 + (x1 : Int) := by rw [IntKind.wrap_i64]; omega
 go_upto_region 2 with fail
 have HAL := hid (((Below.refl w1.heap.size w1).alloc (Nat.le_refl _) (.cells #[.pointer (some ⟨R, 0, none⟩), .slice none 0 0, .slice none 0 0, .int .i64 0, .int .i64 (20 + x1)] 108)).alloc (by simp) (.cells #[] 23))
 have HGS := hid ((GS.start HR1.out x1 (by omega)).next ((Below.refl _ _).alloc (Nat.le_refl _) (.cells #[] 23)))
 have HB2 := hid (hp_next HB1.out HAL.out)
 go_wp2_with fail
 refine (pick_gs HGS.out (by omega) 5 (by omega)).mono ?_
 rintro e w3 ⟨x3, rfl, hx3, g3, k3⟩
 have HG3 := hid g3
 have HB3 := hid ((k3.block rb _ _ _ HB2.out (by unfold GenT; decide)).trans HB2.out)
 have HK3 := hid k3
 clear g3 k3 HGS
 have hw3 : IntKind.i64.wrap (1 + (x3 : Int)) = ((1 + x3 : Nat) : Int) := by rw [IntKind.wrap_i64]; omega
 go_wp2_with fail
 refine (file_any R w1.heap.size _ _ (1 + x3) w3 [] [] HG3.out (by omega) (by decide) (by decide) (by omega) (by omega)).mono ?_
 rintro e w4 ⟨g4, n4, k4, rfl, l4, ⟨ns4, fs4, gs4⟩, d4⟩
 have HB4 := hid ((d4.block rb _ _ _ HB3.out (by unfold GenT; decide) (by decide)).trans HB3.out)
 have r0 := cell_hp HB4.out 0
 have rf := frozen_hp HB4.out 0
 simp at r0
 have HG4 := hid gs4
 have HL4 := hid l4
 have HD4 := hid d4
 clear gs4 l4 d4
 go_wp2
 refine bodyPost_ret (v := .agg #[.slice (some ⟨g4, 0, none⟩) n4 k4]) (by simp [results, Tryz.results33, go_sem, r0]) rfl ⟨g4, n4, k4, rfl, ?_, ?_, ?_⟩
 ·obtain ⟨l, h1, h2⟩ := HL4.out
  refine ⟨l, h1.keep fun g cur hc => Below.heap_setCell _ _ _ _ (fun e => ?_), h2⟩
  have e' : g = rb := e
  subst e'
  rw [HB4.out] at hc
  cases hc
 ·obtain ⟨c5, sz5, p5, g5, _, hp5, _⟩ := HG4.out.set_other (i := 0) HB4.out (by unfold GenT; decide) (by decide) (by decide) (by omega) (.slice (some ⟨g4, 0, none⟩) n4 k4)
  exact ⟨p5, by omega, g5.rd⟩
 ·have b1 : BR R w w1 := (BR.of_below HB0.out (by omega)).trans (BR.of_sv HS1.out (by simp; omega))
  have b2 : BR R w1 w4 := (BR.of_below HAL.out (by omega)).trans (BR.of_gd (HK3.out.d.trans HD4.out))
  exact (b1.trans b2).set (by omega) (by omega) _
def slLen : Value → Nat
 | .slice _ n _ => n
 | _ => 0
structure EI (R eb : Nat) (w : World) (N a P : Nat) (kd : Int) (pv : Value) (wr : World) : Prop where
 rd : ∃ p, p ≤ P ∧ Rd R wr p
 parts : ∃ (xs : List Value) (ls : List (List Nd)), xs.length = a ∧ wr.ownsRow w.heap.size 23 1 pv a xs ∧ xs.length = ls.length ∧ (∀ (j : Nat) u l, xs[j]? = some u → ls[j]? = some l → NdIn wr u l) ∧ NdOk N ls.flatten ∧ ∀ u ∈ xs, u.ownBlock ≠ some eb
 box : wr.heap[eb]? = some (.cells #[.int .i64 kd, .int .i64 0, .int .i64 0, .string ⟨#[]⟩, .int .i64 0] 33 (0, 0))
 sv : Sv (fun k => k = R) w wr
 lo : w.heap.size ≤ eb
 lt : R < w.heap.size
section
variable {R eb : Nat} {w : World} {N a P : Nat} {kd : Int} {pv : Value} {wr : World}
theorem EI.psl (h : EI R eb w N a P kd pv wr) : ∃ pa pc, pv = .slice pa a pc := by
 obtain ⟨xs, ls, _, h2, _⟩ := h.parts
 exact own_sl h2
theorem EI.at_row (h : EI R eb w N a P kd pv wr) (ha : 0 < a) : ∃ g c, pv = .slice (some ⟨g, 0, none⟩) a c := by
 obtain ⟨xs, ls, h1, h2, _⟩ := h.parts
 rcases h2.2 with ⟨_, h0⟩ | ⟨g, cap, cur, e, _⟩
 ·omega
 ·exact ⟨g, cap, e⟩
theorem EI.next (h : EI R eb w N a P kd pv wr) {w2 : World} (hb : Below wr.heap.size wr w2) : EI R eb w N a P kd pv w2 := by
 obtain ⟨⟨p, h1, h2⟩, ⟨xs, ls, q1, q2, q3, q4, q5, q6⟩, h3, h4, h5, h6⟩ := h
 exact ⟨⟨p, h1, h2.next hb⟩, ⟨xs, ls, q1, own_below q2 hb, q3, fun j u l hu hl => (q4 j u l hu hl).next hb, q5, q6⟩, hp_next h3 hb, h4.trans (Sv.of_below hb), h5, h6⟩
theorem EI.mono (h : EI R eb w N a P kd pv wr) {N' P' : Nat} (hN : N ≤ N') (hP : P ≤ P') : EI R eb w N' a P' kd pv wr := by
 obtain ⟨⟨p, h1, h2⟩, ⟨xs, ls, q1, q2, q3, q4, q5, q6⟩, h3, h4, h5, h6⟩ := h
 exact ⟨⟨p, by omega, h2⟩, ⟨xs, ls, q1, q2, q3, q4, q5.mono hN, q6⟩, h3, h4, h5, h6⟩
theorem EI.pick (h : EI R eb w N a P kd pv wr) (hP : P ≤ 1000000) (n : Int) (hn : n ≤ 1000000000) :
  Calls Tryz.prog 17 #[.pointer (some ⟨R, 0, none⟩), .int .i64 n] wr fun e w2 => ∃ x : Nat, e = .returned (.int .i64 x) ∧ (x = 0 ∨ (x : Int) < n) ∧ EI R eb w N a (P + 1) kd pv w2 := by
 obtain ⟨⟨p, h1, h2⟩, ⟨xs, ls, q1, q2, q3, q4, q5, q6⟩, h3, h4, h5, h6⟩ := h
 have h2b := h2
 obtain ⟨ad, m, cap, hR, _⟩ := h2b
 refine (pick_any R p n wr (by omega) hn h2).mono ?_
 rintro e w2 ⟨⟨x, rfl, hx⟩, h9, h10⟩
 have keep : ∀ (k : Nat) cs t fr, wr.heap[k]? = some (.cells cs t fr) → t ≠ 66 → w2.heap[k]? = wr.heap[k]? := fun k cs t fr hc ht => h10.block k (Array.getElem?_eq_some_iff.1 hc).1 (fun e => by
  have e' : k = R := e
  subst e'
  rw [hR] at hc
  cases hc
  exact ht rfl)
 exact ⟨x, rfl, hx, ⟨p + 1, by omega, h9⟩, ⟨xs, ls, q1, own_keep q2 fun k cur _ hc => keep k _ _ _ hc (by decide), q3, fun j u l hu hl => (q4 j u l hu hl).keep fun g cur hc => keep g _ _ _ hc (by decide), q5, q6⟩, (keep eb _ _ _ h3 (by decide)).trans h3, h4.trans h10, h5, h6⟩
theorem EI.setk (h : EI R eb w N a P kd pv wr) (k' : Int) : EI R eb w N a P k' pv (wr.setCell ⟨eb, 0, none⟩ (.int .i64 k')) := by
 obtain ⟨⟨p, h1, h2⟩, ⟨xs, ls, q1, q2, q3, q4, q5, q6⟩, h3, h4, h5, h6⟩ := h
 have keep : ∀ k, k ≠ eb → (wr.setCell ⟨eb, 0, none⟩ (.int .i64 k')).heap[k]? = wr.heap[k]? := fun k hk => Below.heap_setCell _ _ _ _ hk
 have ne : ∀ (k : Nat) cs t fr, wr.heap[k]? = some (.cells cs t fr) → t ≠ 33 → k ≠ eb := fun k cs t fr hc ht e => by
  subst e
  rw [h3] at hc
  cases hc
  exact ht rfl
 refine ⟨⟨p, h1, h2.sv (S := fun k => k = eb) (Sv.setCell (S := fun k => k = eb) (Sv.refl _ wr) (p := ⟨eb, 0, none⟩) (.inl rfl) _) (fun k e => by subst e; omega)⟩, ⟨xs, ls, q1, own_keep q2 fun k cur _ hc => keep k (ne k _ _ _ hc (by decide)), q3, fun j u l hu hl => ?_, q5, q6⟩, ?_, h4.setCell (.inr h5) _, h5, h6⟩
 ·obtain ⟨e0, g, cap, cur, e1, e2, e3⟩ := q4 j u l hu hl
  refine ⟨e0, g, cap, cur, e1, (keep g fun e => ?_).trans e2, e3⟩
  exact q6 u (List.mem_of_getElem? hu) (by rw [e1, e]; rfl)
 ·rw [set_at _ h3]; rfl
theorem EI.parted (h : EI R eb w N a P kd pv wr) {w2 : World} {v2 u : Value} {K : Nat} {xs : List Value} {ls : List (List Nd)} (hn : xs.length = a) (hl : xs.length = ls.length) (hh : ∀ (j : Nat) u l, xs[j]? = some u → ls[j]? = some l → NdIn wr u l) (hok : NdOk N ls.flatten) (hne : ∀ u ∈ xs, u.ownBlock ≠ some eb) (hv : wr.ownsRow w.heap.size 23 1 pv a xs) (hu : Has K wr u) (hub : u.ownBlock ≠ some eb) (hg : wr.grownBy w2 pv.ownBlock) (ho : w2.ownsRow w.heap.size 23 1 v2 (a + 1) (xs ++ [u])) : EI R eb w (N + K) (a + 1) P kd v2 w2 := by
 have hlo := own_lo hv
 obtain ⟨⟨p, h1, h2⟩, _, h3, h4, h5, h6⟩ := h
 have keep : ∀ (k : Nat) cs t fr, wr.heap[k]? = some (.cells cs t fr) → t ≠ 23 → w2.heap[k]? = wr.heap[k]? := fun k cs t fr hc ht => hg.block k (Array.getElem?_eq_some_iff.1 hc).1 fun e2 => by
  obtain ⟨_, cur, hc2⟩ := hlo k e2.symm
  rw [hc] at hc2
  cases hc2
  exact ht rfl
 have hnd : ∀ u l, NdIn wr u l → NdIn w2 u l := fun u l hn => hn.keep fun g cur hc => keep g _ _ _ hc (by decide)
 obtain ⟨lu, u1, u2⟩ := hu
 refine ⟨⟨p, h1, h2.sv (S := fun k => pv.ownBlock = some k) ((Sv.refl _ wr).grown hg fun k hk => .inl hk) (fun k e => ?_)⟩, ⟨xs ++ [u], ls ++ [lu], by simp [hn], ho, by simp [hl], fun j u' l' hu' hl' => ?_, by rw [List.flatten_append]; simpa using hok.app u2, fun v hv => ?_⟩, (keep eb _ _ _ h3 (by decide)).trans h3, h4.grown hg (fun k hk => .inr (hlo k hk).1), h5, h6⟩
 ·have := (hlo k e).1
  omega
 ·by_cases hj : j < xs.length
  ·rw [List.getElem?_append_left hj] at hu'
   rw [List.getElem?_append_left (by omega)] at hl'
   exact hnd _ _ (hh j u' l' hu' hl')
  ·rw [List.getElem?_append_right (by omega)] at hu'
   rw [List.getElem?_append_right (by omega)] at hl'
   have hj0 : j - xs.length = 0 := by
    have := (List.getElem?_eq_some_iff.1 hu').1
    simp at this
    omega
   rw [hj0] at hu'
   rw [show j - ls.length = 0 by omega] at hl'
   cases hu'; cases hl'
   exact hnd _ _ u1
 ·rcases List.mem_append.1 hv with hv | hv
  ·exact hne v hv
  ·simp at hv
   subst hv
   exact hub
theorem EI.putAll (h : EI R eb w N a P kd pv wr) {g k : Nat} (hv : pv = .slice (some ⟨g, 0, none⟩) a k) (ha : a ≤ 1000) (hK : N ≤ 100000) :
  Calls Tryz.prog 57 #[.agg #[.int .i64 kd, .int .i64 0, .int .i64 0, .string ⟨#[]⟩, .int .i64 0], .slice (some ⟨g, 0, none⟩) a k] wr fun e w2 => ∃ g n k, e = .returned (.slice (some ⟨g, 0, none⟩) n k) ∧ Has (N + 1) w2 (.slice (some ⟨g, 0, none⟩) n k) ∧ Below wr.heap.size wr w2 := by
 obtain ⟨xs, ls, h1, h2, h3, h4, h5, _⟩ := h.parts
 subst hv
 have hparts : PartsIn wr (some ⟨g, 0, none⟩) xs ls := by
  refine ⟨h3, ?_, h4⟩
  rcases h2.2 with ⟨e, _⟩ | ⟨g', cap, cur, e, _, b3, _, _, _, b4⟩
  ·cases e
  ·cases e
   refine .inr ⟨g, rfl, cur, b3, fun j u hu => ?_⟩
   rw [Nat.mul_one] at b4
   rw [← b4] at hu
   have hj := (List.getElem?_eq_some_iff.1 hu).1
   rw [List.length_take] at hj
   rw [List.getElem?_take_of_lt (by omega)] at hu
   simpa using hu
 refine (l2Over_any ⟨kd, 0, 0, ⟨#[]⟩, 0⟩ (some ⟨g, 0, none⟩) a k xs ls wr h1 (by omega) hparts (by have := h5.1; omega)).mono ?_
 rintro e w2 ⟨v, rfl, h6, h7⟩
 obtain ⟨g2, n2, k2, rfl⟩ := h6.sl
 exact ⟨g2, n2, k2, rfl, ⟨_, h6, h5.over (by show (⟨#[]⟩ : ByteArray).size ≤ 1000; decide)⟩, h7⟩
end
theorem put_one (x : Nd) (u : Value) {K : Nat} {W : World} (hu : Has K W u) (hx : x.text.size ≤ 1000) (hK : K ≤ 100000) :
  Calls Tryz.prog 57 #[.agg #[.int .i64 x.kind, .int .i64 x.op, .int .i64 x.n, .string x.text, .int .i64 x.kids], .slice (some ⟨W.heap.size, 0, none⟩) 1 1] (W.alloc (.cells #[u] 23)) fun e w2 => ∃ g n k, e = .returned (.slice (some ⟨g, 0, none⟩) n k) ∧ Has (K + 1) w2 (.slice (some ⟨g, 0, none⟩) n k) ∧ Below W.heap.size W w2 := by
 obtain ⟨l, h1, h2⟩ := hu
 refine (over1 x u l W h1 (by have := h2.1; omega)).mono ?_
 rintro e w2 ⟨v, rfl, h3, h4⟩
 obtain ⟨g, n, k, rfl⟩ := h3.sl
 exact ⟨g, n, k, rfl, ⟨_, h3, h2.over hx⟩, h4⟩
theorem nd_ne {W : World} {u : Value} {x : Nd} {l : List Nd} {eb : Nat} {kd : Int} {a1 a2 a3 a4 : Value} (h : NdIn W u (x :: l)) (hb : W.heap[eb]? = some (.cells #[.int .i64 kd, a1, a2, a3, a4] 33 (0, 0))) (hk : x.kind ≠ kd) : u.ownBlock ≠ some eb := fun e => by
 obtain ⟨_, g, cap, cur, e1, e2, e3⟩ := h
 rw [e1] at e
 simp only [Value.ownBlock, Option.some.injEq] at e
 subst e
 rw [hb] at e2
 cases e2
 have := e3 0 (.int .i64 x.kind) rfl
 simp at this
 exact hk this.symm
def TreeEnd (R K P : Nat) (w : World) (e : Ending) (w2 : World) : Prop := ∃ g n c, e = .returned (.agg #[.slice (some ⟨g, 0, none⟩) n c]) ∧ Has K w2 (.slice (some ⟨g, 0, none⟩) n c) ∧ (∃ p', p' ≤ P ∧ Rd R w2 p') ∧ BR R w w2
set_option maxHeartbeats 16000000 in
theorem edge_any (R p : Nat) (w : World) (h : Rd R w p) (hp : p ≤ 100000) :
  Calls Tryz.prog 32 #[.pointer (some ⟨R, 0, none⟩)] w (TreeEnd R 2000 (p + 10) w) := by
 obtain ⟨i0, hi0, hz0, hz1, hz2⟩ := info_parts info_ns
 have HHI := hid (And.intro hi0 (And.intro hz0 (And.intro hz1 hz2)))
 clear hi0 hz0 hz1 hz2
 have HB0 := hid ((Below.refl w.heap.size w).alloc (Nat.le_refl _) (.cells #[.slice none 0 0] 25))
 have HBX := hid (heap_alloc_new w (.cells #[.slice none 0 0] 25))
 have HR0 := hid (h.next HB0.out)
 have hRw := h.lt
 clear h
 go_enter Tryz.func32, Tryz.ntmps32
 go_upto_region 1 with fail
 obtain ⟨rb, hrb⟩ : ∃ g, w.heap.size = g := ⟨_, rfl⟩
 obtain ⟨W0, hW0⟩ : ∃ W, w.alloc (.cells #[.slice none 0 0] 25) = W := ⟨_, rfl⟩
 have hR0 : R < W0.heap.size := by rw [← hW0, World.size_alloc]; omega
 have hrbR : R < rb := by omega
 rw [hW0] at HB0 HBX HR0 ⊢
 rw [hrb] at HBX ⊢
 have HRB := hid hrb
 clear hrb hW0
 have HAL := hid (((Below.refl W0.heap.size W0).alloc (Nat.le_refl _) (.cells #[] 23)).alloc (by simp) (.cells #[.int .i64 8, .int .i64 0, .int .i64 0, .string ⟨#[]⟩, .int .i64 0] 33))
 have HE0 : Hid (EI R (W0.heap.size + 1) W0 0 0 p 8 (.slice (some ⟨W0.heap.size, 0, none⟩) 0 0) ((W0.alloc (.cells #[] 23)).alloc (.cells #[.int .i64 8, .int .i64 0, .int .i64 0, .string ⟨#[]⟩, .int .i64 0] 33))) := by
  refine ⟨⟨p, Nat.le_refl _, HR0.out.next HAL.out⟩, ⟨[], [], rfl, ?_, rfl, fun j u l hu _ => by simp at hu, by simp [NdOk], fun u hu => (nomatch hu)⟩, ?_, Sv.of_below HAL.out, Nat.le_succ _, hR0⟩
  ·refine ⟨rfl, .inr ⟨W0.heap.size, 0, #[], rfl, Nat.le_refl _, ?_, Nat.le_refl _, by unfold maxLen; omega, rfl, rfl⟩⟩
   rw [Below.heap_alloc _ _ _ (by simp)]
   exact heap_alloc_new W0 _
  ·have := heap_alloc_new (W0.alloc (.cells #[] 23)) (.cells #[.int .i64 8, .int .i64 0, .int .i64 0, .string ⟨#[]⟩, .int .i64 0] 33)
   rwa [World.size_alloc] at this
 go_upto_region 4 with fail
 obtain ⟨eb, heb⟩ : ∃ g, W0.heap.size + 1 = g := ⟨_, rfl⟩
 obtain ⟨W1, hW1⟩ : ∃ W, (W0.alloc (.cells #[] 23)).alloc (.cells #[.int .i64 8, .int .i64 0, .int .i64 0, .string ⟨#[]⟩, .int .i64 0] 33) = W := ⟨_, rfl⟩
 rw [hW1] at HE0 ⊢
 rw [heb] at HE0 ⊢
 obtain ⟨pa0, hpa0⟩ : ∃ g, W0.heap.size = g := ⟨_, rfl⟩
 have HWS := hid hpa0
 clear heb hW1 HAL
 rw [hpa0] at HE0 ⊢
 clear hpa0
 go_wp2_with fail
 refine (HE0.out.pick (by omega) 4 (by omega)).mono ?_
 rintro e w1 ⟨x, rfl, hx, d1⟩
 have HE1 := hid d1
 clear d1 HE0
 have hx9 : x = 0 ∨ x = 1 ∨ x = 2 ∨ x = 3 := by omega
 clear hx
 by_cases hx0 : x = 0
 ·subst hx0
  go_wp2_with fail
  refine (HE1.out.pick (by omega) 2 (by omega)).mono ?_
  rintro e w2 ⟨y, rfl, hy, d2⟩
  have HE2 := hid d2
  clear d2 HE1
  have hwy : IntKind.i64.wrap (50 + (y : Int)) = ((50 + y : Nat) : Int) := by rw [IntKind.wrap_i64]; omega
  go_wp2_with fail
  refine (l2Deep_any (50 + y) w2 (by omega)).mono ?_
  rintro e w3 ⟨⟨v3, l3, rfl, n3, k3⟩, hb3⟩
  obtain ⟨g3, m3, c3, rfl⟩ := n3.sl
  have HE3 := hid (HE2.out.next hb3)
  have HL3 : Hid (Has 2000 w3 (.slice (some ⟨g3, 0, none⟩) m3 c3)) := ⟨l3, n3, k3⟩
  clear hb3 n3 k3 HE2
  have hb8 : w3.heap[rb]? = some (.cells #[.slice none 0 0] 25 (0, 0)) := (HE3.out.sv.block rb (by have := (Array.getElem?_eq_some_iff.1 HBX.out).1; exact this) (by show ¬ rb = R; omega)).trans HBX.out
  have r0 := cell_hp hb8 0
  have rf := frozen_hp hb8 0
  simp at r0
  have HB8 := hid hb8
  clear hb8
  go_wp2
  refine bodyPost_ret (v := .agg #[.slice (some ⟨g3, 0, none⟩) m3 c3]) (by simp [results, Tryz.results32, go_sem, r0]) rfl ⟨g3, m3, c3, rfl, ?_, ?_, ?_⟩
  ·obtain ⟨l, h1, h2⟩ := HL3.out
   refine ⟨l, h1.keep fun g cur hc => Below.heap_setCell _ _ _ _ (fun e => ?_), h2.mono (by omega)⟩
   have e' : g = rb := e
   subst e'
   rw [HB8.out] at hc
   cases hc
  ·obtain ⟨p9, hp9, hr9⟩ := HE3.out.rd
   exact ⟨p9, by omega, hr9.sv (S := fun k => k = rb) (Sv.setCell (S := fun k => k = rb) (Sv.refl _ w3) (p := ⟨rb, 0, none⟩) (.inl rfl) _) (fun k e => by subst e; omega)⟩
  ·have b1 : BR R w W0 := BR.of_below HB0.out (by omega)
   have b2 : BR R W0 w3 := BR.of_sv HE3.out.sv (by omega)
   exact (b1.trans b2).set (by omega) (by rw [HRB.out]; exact Nat.le_refl _) _
 ·have hxb : ((x : Int) == 0) = false := by simpa using hx0
  have hx4 : x = 1 ∨ x = 2 ∨ x = 3 := by omega
  rcases hx4 with hx1 | hx2 | hx3
  ·subst hx1
   go_wp2_with fail
   refine (HE1.out.pick (by omega) 2 (by omega)).mono ?_
   rintro e w2 ⟨y, rfl, hy, d2⟩
   have HE2 := hid d2
   clear d2 HE1
   have hwy : IntKind.i64.wrap (200 + (y : Int)) = ((200 + y : Nat) : Int) := by rw [IntKind.wrap_i64]; omega
   have HE9 := hid (HE2.out.mono (Nat.le_refl _) (P' := p + 5) (by omega))
   clear HE2
   go_wp2
   go_loopw [3] (fun pv wr => ∃ t : Nat, t ≤ (200 + y) ∧ 0 ≤ t ∧ (∃ pa pc, pv = .slice pa t pc) ∧ EI R eb W0 t t (p + 5) 8 pv wr) (fun pv _ => (200 + y) - slLen pv)
   case atStart => exact ⟨0, by omega, Nat.le_refl _, ⟨_, _, rfl⟩, HE9.out⟩
   case round =>
    obtain ⟨t, ht, hat, ⟨pa, pc, rfl⟩, hd⟩ := hrel
    have HEA := hid hd
    clear hd HE9
    by_cases hlt : t < (200 + y)
    ·have hti : (t : Int) < (((200 + y) : Nat) : Int) := by omega
     go_wp2_with fail
     refine (intNode_any 3 _).mono ?_
     rintro e w5 ⟨v5, rfl, nn5, hb5⟩
     have hsl := nn5.sl
     obtain ⟨g5, n5, k5, rfl⟩ := hsl
     have HE5 := hid (HEA.out.next hb5)
     have hub := nd_ne nn5 HE5.out.box (by decide)
     have HAL := hid ((Below.refl w5.heap.size w5).alloc (Nat.le_refl _) (.cells #[.slice (some ⟨g5, 0, none⟩) n5 k5] 23))
     have HE6 := hid (HE5.out.next HAL.out)
     have HL6 : Hid (Has 1 (w5.alloc (.cells #[.slice (some ⟨g5, 0, none⟩) n5 k5] 23)) (.slice (some ⟨g5, 0, none⟩) n5 k5)) := ⟨_, nn5.next HAL.out, NdOk.one (by show (⟨#[]⟩ : ByteArray).size ≤ 1000; decide)⟩
     have hw5 : W0.heap.size ≤ w5.heap.size := HE5.out.sv.size
     clear hb5 nn5 HEA HE5 HAL
     obtain ⟨xs, ls, q1, q2, q3, q4, q5, q6⟩ := HE6.out.parts
     have HQ2 := hid q2
     have HQ4 := hid q4
     have HQ5 := hid q5
     have HQ6 := hid q6
     have hwz : W0.heap.size ≤ (w5.alloc (.cells #[.slice (some ⟨g5, 0, none⟩) n5 k5] 23)).heap.size := HE6.out.sv.size
     clear q2 q4 q5 q6
     go_wp2_with (at_builtin; refine wpList_append_own _ rfl _ _ 99 rfl W0.heap.size 23 i0 (.slice none 0 0) 1 24 Tryz.underlying99 HHI.out.1 HHI.out.2.1 HHI.out.2.2.1 HHI.out.2.2.2 rfl (by decide) _ _ xs rfl HQ2.out ⟨w5.heap.size, 0, none⟩ 1 1 [.slice (some ⟨g5, 0, none⟩) n5 k5] rfl rfl ?c1 ?c2 ?c3 ?c4 ?c5 ?_)
     case c1 =>
      intro j u hj
      match j, hj with
      | 0, hj => simp at hj; subst hj; exact cell_new_row w5 _ _ 0
     case c2 => intro u hu; simp at hu; subst hu; rfl
     case c3 => unfold maxLen; omega
     case c4 => omega
     case c5 => simpa using hwz
     intro vz wz oz gz _
     have HEZ := hid (HE6.out.parted q1 q3 HQ4.out HQ5.out HQ6.out HQ2.out HL6.out hub gz oz)
     clear oz gz HE6 HL6 HQ2 HQ4 HQ5 HQ6 q1 q3
     obtain ⟨paz, pcz, hvz⟩ := HEZ.out.psl
     subst hvz
     go_wp2
     go_roundw
     case rel => exact ⟨t + 1, by omega, by omega, ⟨_, _, rfl⟩, HEZ.out⟩
     case measure => simp [slLen]; omega
    ·obtain rfl : t = (200 + y) := by omega
     have hti : ¬ (((200 + y) : Nat) : Int) < (((200 + y) : Nat) : Int) := by omega
     obtain ⟨pg, pk, hv⟩ := HEA.out.at_row (by omega)
     cases hv
     obtain ⟨b0, b1, b2, b3, b4⟩ := five_at HEA.out.box
     go_wp2_with fail
     refine (HEA.out.putAll rfl (by omega) (by omega)).mono ?_
     rintro e w5 ⟨g5, n5, k5, rfl, l5, hb5⟩
     have HE5 := hid (HEA.out.next hb5)
     have HL5 := hid l5
     clear b0 b1 b2 b3 b4 hb5 l5 HEA
     go_wp2_with fail
     refine (put_one ⟨21, 0, 0, ⟨#[120]⟩, 0⟩ _ HL5.out (by show (⟨#[120]⟩ : ByteArray).size ≤ 1000; decide) (by omega)).mono ?_
     rintro e w6 ⟨g6, n6, k6, rfl, l6, hb6⟩
     have HE6 := hid (HE5.out.next hb6)
     have HL6 := hid l6
     clear hb6 l6 HE5 HL5
     go_wp2_with fail
     refine (put_one ⟨24, 0, 0, ⟨#[]⟩, 0⟩ _ HL6.out (by show (⟨#[]⟩ : ByteArray).size ≤ 1000; decide) (by omega)).mono ?_
     rintro e w7 ⟨g7, n7, k7, rfl, l7, hb7⟩
     have HE7 := hid (HE6.out.next hb7)
     have HL7 := hid l7
     clear hb7 l7 HE6 HL6
     have hb8 : w7.heap[rb]? = some (.cells #[.slice none 0 0] 25 (0, 0)) := (HE7.out.sv.block rb (by have := (Array.getElem?_eq_some_iff.1 HBX.out).1; exact this) (by show ¬ rb = R; omega)).trans HBX.out
     have r0 := cell_hp hb8 0
     have rf := frozen_hp hb8 0
     simp at r0
     have HB8 := hid hb8
     clear hb8
     go_wp2
     refine bodyPost_ret (v := .agg #[.slice (some ⟨g7, 0, none⟩) n7 k7]) (by simp [results, Tryz.results32, go_sem, r0]) rfl ⟨g7, n7, k7, rfl, ?_, ?_, ?_⟩
     ·obtain ⟨l, h1, h2⟩ := HL7.out
      refine ⟨l, h1.keep fun g cur hc => Below.heap_setCell _ _ _ _ (fun e => ?_), h2.mono (by omega)⟩
      have e' : g = rb := e
      subst e'
      rw [HB8.out] at hc
      cases hc
     ·obtain ⟨p9, hp9, hr9⟩ := HE7.out.rd
      exact ⟨p9, by omega, hr9.sv (S := fun k => k = rb) (Sv.setCell (S := fun k => k = rb) (Sv.refl _ w7) (p := ⟨rb, 0, none⟩) (.inl rfl) _) (fun k e => by subst e; omega)⟩
     ·have b1 : BR R w W0 := BR.of_below HB0.out (by omega)
      have b2 : BR R W0 w7 := BR.of_sv HE7.out.sv (by omega)
      exact (b1.trans b2).set (by omega) (by rw [HRB.out]; exact Nat.le_refl _) _
  ·subst hx2
   go_wp2_with fail
   refine (HE1.out.pick (by omega) 2 (by omega)).mono ?_
   rintro e w2 ⟨y, rfl, hy, d2⟩
   have HE2 := hid d2
   clear d2 HE1
   have hwy : IntKind.i64.wrap (8 + (y : Int)) = 8 + (y : Int) := by rw [IntKind.wrap_i64]; omega
   have hwy2 : IntKind.i64.wrap (8 + (y : Int) + 1) = ((9 + y : Nat) : Int) := by rw [IntKind.wrap_i64]; omega
   have b0 := (five_at HE2.out.box).1
   have bf := frozen_hp HE2.out.box 0
   have HE3 := hid (HE2.out.setk 12)
   have HE9 := hid (HE3.out.mono (Nat.le_refl _) (P' := p + 5) (by omega))
   clear HE2 HE3
   go_wp2
   go_loopw [3] (fun pv wr => ∃ t : Nat, t ≤ (9 + y) ∧ 0 ≤ t ∧ (∃ pa pc, pv = .slice pa t pc) ∧ EI R eb W0 t t (p + 5) 12 pv wr) (fun pv _ => (9 + y) - slLen pv)
   case atStart => exact ⟨0, by omega, Nat.le_refl _, ⟨_, _, rfl⟩, HE9.out⟩
   case round =>
    obtain ⟨t, ht, hat, ⟨pa, pc, rfl⟩, hd⟩ := hrel
    have HEA := hid hd
    clear hd HE9
    by_cases hlt : t < (9 + y)
    ·have hti : (t : Int) < (((9 + y) : Nat) : Int) := by omega
     go_wp2_with fail
     refine (intNode_any 3 _).mono ?_
     rintro e w5 ⟨v5, rfl, nn5, hb5⟩
     have hsl := nn5.sl
     obtain ⟨g5, n5, k5, rfl⟩ := hsl
     have HE5 := hid (HEA.out.next hb5)
     have hub := nd_ne nn5 HE5.out.box (by decide)
     have HAL := hid ((Below.refl w5.heap.size w5).alloc (Nat.le_refl _) (.cells #[.slice (some ⟨g5, 0, none⟩) n5 k5] 23))
     have HE6 := hid (HE5.out.next HAL.out)
     have HL6 : Hid (Has 1 (w5.alloc (.cells #[.slice (some ⟨g5, 0, none⟩) n5 k5] 23)) (.slice (some ⟨g5, 0, none⟩) n5 k5)) := ⟨_, nn5.next HAL.out, NdOk.one (by show (⟨#[]⟩ : ByteArray).size ≤ 1000; decide)⟩
     have hw5 : W0.heap.size ≤ w5.heap.size := HE5.out.sv.size
     clear hb5 nn5 HEA HE5 HAL
     obtain ⟨xs, ls, q1, q2, q3, q4, q5, q6⟩ := HE6.out.parts
     have HQ2 := hid q2
     have HQ4 := hid q4
     have HQ5 := hid q5
     have HQ6 := hid q6
     have hwz : W0.heap.size ≤ (w5.alloc (.cells #[.slice (some ⟨g5, 0, none⟩) n5 k5] 23)).heap.size := HE6.out.sv.size
     clear q2 q4 q5 q6
     go_wp2_with (at_builtin; refine wpList_append_own _ rfl _ _ 99 rfl W0.heap.size 23 i0 (.slice none 0 0) 1 24 Tryz.underlying99 HHI.out.1 HHI.out.2.1 HHI.out.2.2.1 HHI.out.2.2.2 rfl (by decide) _ _ xs rfl HQ2.out ⟨w5.heap.size, 0, none⟩ 1 1 [.slice (some ⟨g5, 0, none⟩) n5 k5] rfl rfl ?c1 ?c2 ?c3 ?c4 ?c5 ?_)
     case c1 =>
      intro j u hj
      match j, hj with
      | 0, hj => simp at hj; subst hj; exact cell_new_row w5 _ _ 0
     case c2 => intro u hu; simp at hu; subst hu; rfl
     case c3 => unfold maxLen; omega
     case c4 => omega
     case c5 => simpa using hwz
     intro vz wz oz gz _
     have HEZ := hid (HE6.out.parted q1 q3 HQ4.out HQ5.out HQ6.out HQ2.out HL6.out hub gz oz)
     clear oz gz HE6 HL6 HQ2 HQ4 HQ5 HQ6 q1 q3
     obtain ⟨paz, pcz, hvz⟩ := HEZ.out.psl
     subst hvz
     go_wp2
     go_roundw
     case rel => exact ⟨t + 1, by omega, by omega, ⟨_, _, rfl⟩, HEZ.out⟩
     case measure => simp [slLen]; omega
    ·obtain rfl : t = (9 + y) := by omega
     have hti : ¬ (((9 + y) : Nat) : Int) < (((9 + y) : Nat) : Int) := by omega
     obtain ⟨pg, pk, hv⟩ := HEA.out.at_row (by omega)
     cases hv
     obtain ⟨b0, b1, b2, b3, b4⟩ := five_at HEA.out.box
     go_wp2_with fail
     refine (HEA.out.putAll rfl (by omega) (by omega)).mono ?_
     rintro e w5 ⟨g5, n5, k5, rfl, l5, hb5⟩
     have HE5 := hid (HEA.out.next hb5)
     have HL5 := hid l5
     clear b0 b1 b2 b3 b4 hb5 l5 HEA
     go_wp2_with fail
     refine (put_one ⟨21, 0, 0, ⟨#[120]⟩, 0⟩ _ HL5.out (by show (⟨#[120]⟩ : ByteArray).size ≤ 1000; decide) (by omega)).mono ?_
     rintro e w6 ⟨g6, n6, k6, rfl, l6, hb6⟩
     have HE6 := hid (HE5.out.next hb6)
     have HL6 := hid l6
     clear hb6 l6 HE5 HL5
     go_wp2_with fail
     refine (put_one ⟨24, 0, 0, ⟨#[]⟩, 0⟩ _ HL6.out (by show (⟨#[]⟩ : ByteArray).size ≤ 1000; decide) (by omega)).mono ?_
     rintro e w7 ⟨g7, n7, k7, rfl, l7, hb7⟩
     have HE7 := hid (HE6.out.next hb7)
     have HL7 := hid l7
     clear hb7 l7 HE6 HL6
     have hb8 : w7.heap[rb]? = some (.cells #[.slice none 0 0] 25 (0, 0)) := (HE7.out.sv.block rb (by have := (Array.getElem?_eq_some_iff.1 HBX.out).1; exact this) (by show ¬ rb = R; omega)).trans HBX.out
     have r0 := cell_hp hb8 0
     have rf := frozen_hp hb8 0
     simp at r0
     have HB8 := hid hb8
     clear hb8
     go_wp2
     refine bodyPost_ret (v := .agg #[.slice (some ⟨g7, 0, none⟩) n7 k7]) (by simp [results, Tryz.results32, go_sem, r0]) rfl ⟨g7, n7, k7, rfl, ?_, ?_, ?_⟩
     ·obtain ⟨l, h1, h2⟩ := HL7.out
      refine ⟨l, h1.keep fun g cur hc => Below.heap_setCell _ _ _ _ (fun e => ?_), h2.mono (by omega)⟩
      have e' : g = rb := e
      subst e'
      rw [HB8.out] at hc
      cases hc
     ·obtain ⟨p9, hp9, hr9⟩ := HE7.out.rd
      exact ⟨p9, by omega, hr9.sv (S := fun k => k = rb) (Sv.setCell (S := fun k => k = rb) (Sv.refl _ w7) (p := ⟨rb, 0, none⟩) (.inl rfl) _) (fun k e => by subst e; omega)⟩
     ·have b1 : BR R w W0 := BR.of_below HB0.out (by omega)
      have b2 : BR R W0 w7 := BR.of_sv HE7.out.sv (by omega)
      exact (b1.trans b2).set (by omega) (by rw [HRB.out]; exact Nat.le_refl _) _
  ·subst hx3
   go_wp2_with fail
   refine (HE1.out.pick (by omega) 2 (by omega)).mono ?_
   rintro e w2 ⟨y, rfl, hy, d2⟩
   have HE2 := hid d2
   clear d2 HE1
   have hwy : IntKind.i64.wrap (8 + (y : Int)) = ((8 + y : Nat) : Int) := by rw [IntKind.wrap_i64]; omega
   have hwy2 : IntKind.i64.wrap (((8 + y : Nat) : Int) + 1) = ((9 + y : Nat) : Int) := by rw [IntKind.wrap_i64]; omega
   go_wp2
   go_loopw [3, 6] (fun pv i wr => ∃ t : Nat, t ≤ 8 + y ∧ i = .int .i64 t ∧ EI R eb W0 t t (p + 1 + 1) 8 pv wr) (fun _ i _ => 8 + y - (intOf i).toNat)
   case atStart => exact ⟨0, Nat.zero_le _, rfl, HE2.out⟩
   case round =>
    obtain ⟨t, ht, rfl, hd⟩ := hrel
    have HE3 := hid hd
    obtain ⟨pa, pc, rfl⟩ := hd.psl
    clear hd
    by_cases hlt : t < 8 + y
    ·have hti : (t : Int) < ((8 + y : Nat) : Int) := by omega
     go_wp2_with fail
     refine (l1Dec_any 17 t _ (by have : (100 : Nat) < 10 ^ 18 := (by decide); omega) (by decide)).mono ?_
     rintro e w4 ⟨sd, rfl, hsd, hb4⟩
     have HE4 := hid (HE3.out.next hb4)
     clear hb4 HE3
     obtain ⟨ps, hps⟩ : ∃ ps : ByteArray, (⟨#[112]⟩ : ByteArray) ++ sd = ps := ⟨_, rfl⟩
     have hpz : ps.size ≤ 100 := by rw [← hps, ByteArray.size_append]; show 1 + sd.size ≤ 100; omega
     have HAL := hid (((Below.refl w4.heap.size w4).alloc (Nat.le_refl _) (.cells #[.int .i64 19, .int .i64 0, .int .i64 0, .string ps, .int .i64 0] 33)).alloc (by simp) (.cells #[.slice (some ⟨w4.heap.size, 0, none⟩) 1 1] 23))
     have HE5 := hid (HE4.out.next HAL.out)
     have HL5 : Hid (Has 1 ((w4.alloc (.cells #[.int .i64 19, .int .i64 0, .int .i64 0, .string ps, .int .i64 0] 33)).alloc (.cells #[.slice (some ⟨w4.heap.size, 0, none⟩) 1 1] 23)) (.slice (some ⟨w4.heap.size, 0, none⟩) 1 1)) := ⟨[⟨19, 0, 0, ps, 0⟩], (nd_one w4 ⟨19, 0, 0, ps, 0⟩).next ((Below.refl _ _).alloc (Nat.le_refl _) _), NdOk.one (by show ps.size ≤ 1000; omega)⟩
     have heb4 : eb < w4.heap.size := (Array.getElem?_eq_some_iff.1 HE4.out.box).1
     have hub : (Value.slice (some ⟨w4.heap.size, 0, none⟩) 1 1).ownBlock ≠ some eb := fun e => by
      have e' : w4.heap.size = eb := Option.some.inj e
      omega
     clear HAL HE4
     obtain ⟨xs, ls, q1, q2, q3, q4, q5, q6⟩ := HE5.out.parts
     have HQ2 := hid q2
     have HQ4 := hid q4
     have HQ5 := hid q5
     have HQ6 := hid q6
     have hwz : W0.heap.size ≤ ((w4.alloc (.cells #[.int .i64 19, .int .i64 0, .int .i64 0, .string ps, .int .i64 0] 33)).alloc (.cells #[.slice (some ⟨w4.heap.size, 0, none⟩) 1 1] 23)).heap.size := HE5.out.sv.size
     clear q2 q4 q5 q6
     go_wp2_with (at_builtin; refine wpList_append_own _ rfl _ _ 99 rfl W0.heap.size 23 i0 (.slice none 0 0) 1 24 Tryz.underlying99 HHI.out.1 HHI.out.2.1 HHI.out.2.2.1 HHI.out.2.2.2 rfl (by decide) _ _ xs rfl HQ2.out ⟨w4.heap.size + 1, 0, none⟩ 1 1 [.slice (some ⟨w4.heap.size, 0, none⟩) 1 1] rfl rfl ?c1 ?c2 ?c3 ?c4 ?c5 ?_)
     case c1 =>
      intro j u hj
      match j, hj with
      | 0, hj => simp at hj; subst hj; have := cell_new_row (w4.alloc (.cells #[.int .i64 19, .int .i64 0, .int .i64 0, .string ps, .int .i64 0] 33)) #[.slice (some ⟨w4.heap.size, 0, none⟩) 1 1] 23 0; rw [World.size_alloc] at this; exact this
     case c2 => intro u hu; simp at hu; subst hu; rfl
     case c3 => unfold maxLen; omega
     case c4 => omega
     case c5 => simpa using hwz
     intro vz wz oz gz _
     have HEZ := hid (HE5.out.parted q1 q3 HQ4.out HQ5.out HQ6.out HQ2.out HL5.out hub gz oz)
     clear oz gz HE5 HL5 HQ2 HQ4 HQ5 HQ6 q1 q3
     have hinc : IntKind.i64.wrap ((t : Int) + 1) = ((t + 1 : Nat) : Int) := by rw [IntKind.wrap_i64]; omega
     go_wp2
     go_roundw
     case rel => exact ⟨t + 1, by omega, by go_num, HEZ.out⟩
     case measure => simp [intOf]; omega
    ·obtain rfl : t = 8 + y := by omega
     have hti : ¬ ((8 + y : Nat) : Int) < ((8 + y : Nat) : Int) := by omega
     have b0 := (five_at HE3.out.box).1
     have bf := frozen_hp HE3.out.box 0
     have HE4 := hid (HE3.out.setk 15)
     have HE9 := hid (HE4.out.mono (Nat.le_refl _) (P' := p + 5) (by omega))
     clear HE3 HE4
     go_wp2
     go_loopw [3] (fun pv wr => ∃ t : Nat, t ≤ (9 + y) ∧ (8 + y) ≤ t ∧ (∃ pa pc, pv = .slice pa t pc) ∧ EI R eb W0 t t (p + 5) 15 pv wr) (fun pv _ => (9 + y) - slLen pv)
     case atStart => exact ⟨(8 + y), by omega, Nat.le_refl _, ⟨_, _, rfl⟩, HE9.out⟩
     case round =>
      obtain ⟨t, ht, hat, ⟨pa, pc, rfl⟩, hd⟩ := hrel
      have HEA := hid hd
      clear hd HE9
      by_cases hlt : t < (9 + y)
      ·have hti : (t : Int) < (((9 + y) : Nat) : Int) := by omega
       go_wp2_with fail
       refine (intNode_any 3 _).mono ?_
       rintro e w5 ⟨v5, rfl, nn5, hb5⟩
       have hsl := nn5.sl
       obtain ⟨g5, n5, k5, rfl⟩ := hsl
       have HE5 := hid (HEA.out.next hb5)
       have hub := nd_ne nn5 HE5.out.box (by decide)
       have HAL := hid ((Below.refl w5.heap.size w5).alloc (Nat.le_refl _) (.cells #[.slice (some ⟨g5, 0, none⟩) n5 k5] 23))
       have HE6 := hid (HE5.out.next HAL.out)
       have HL6 : Hid (Has 1 (w5.alloc (.cells #[.slice (some ⟨g5, 0, none⟩) n5 k5] 23)) (.slice (some ⟨g5, 0, none⟩) n5 k5)) := ⟨_, nn5.next HAL.out, NdOk.one (by show (⟨#[]⟩ : ByteArray).size ≤ 1000; decide)⟩
       have hw5 : W0.heap.size ≤ w5.heap.size := HE5.out.sv.size
       clear hb5 nn5 HEA HE5 HAL
       obtain ⟨xs, ls, q1, q2, q3, q4, q5, q6⟩ := HE6.out.parts
       have HQ2 := hid q2
       have HQ4 := hid q4
       have HQ5 := hid q5
       have HQ6 := hid q6
       have hwz : W0.heap.size ≤ (w5.alloc (.cells #[.slice (some ⟨g5, 0, none⟩) n5 k5] 23)).heap.size := HE6.out.sv.size
       clear q2 q4 q5 q6
       go_wp2_with (at_builtin; refine wpList_append_own _ rfl _ _ 99 rfl W0.heap.size 23 i0 (.slice none 0 0) 1 24 Tryz.underlying99 HHI.out.1 HHI.out.2.1 HHI.out.2.2.1 HHI.out.2.2.2 rfl (by decide) _ _ xs rfl HQ2.out ⟨w5.heap.size, 0, none⟩ 1 1 [.slice (some ⟨g5, 0, none⟩) n5 k5] rfl rfl ?c1 ?c2 ?c3 ?c4 ?c5 ?_)
       case c1 =>
        intro j u hj
        match j, hj with
        | 0, hj => simp at hj; subst hj; exact cell_new_row w5 _ _ 0
       case c2 => intro u hu; simp at hu; subst hu; rfl
       case c3 => unfold maxLen; omega
       case c4 => omega
       case c5 => simpa using hwz
       intro vz wz oz gz _
       have HEZ := hid (HE6.out.parted q1 q3 HQ4.out HQ5.out HQ6.out HQ2.out HL6.out hub gz oz)
       clear oz gz HE6 HL6 HQ2 HQ4 HQ5 HQ6 q1 q3
       obtain ⟨paz, pcz, hvz⟩ := HEZ.out.psl
       subst hvz
       go_wp2
       go_roundw
       case rel => exact ⟨t + 1, by omega, by omega, ⟨_, _, rfl⟩, HEZ.out⟩
       case measure => simp [slLen]; omega
      ·obtain rfl : t = (9 + y) := by omega
       have hti : ¬ (((9 + y) : Nat) : Int) < (((9 + y) : Nat) : Int) := by omega
       obtain ⟨pg, pk, hv⟩ := HEA.out.at_row (by omega)
       cases hv
       obtain ⟨b0, b1, b2, b3, b4⟩ := five_at HEA.out.box
       go_wp2_with fail
       refine (HEA.out.putAll rfl (by omega) (by omega)).mono ?_
       rintro e w5 ⟨g5, n5, k5, rfl, l5, hb5⟩
       have HE5 := hid (HEA.out.next hb5)
       have HL5 := hid l5
       clear b0 b1 b2 b3 b4 hb5 l5 HEA
       go_wp2_with fail
       refine (put_one ⟨21, 0, 0, ⟨#[120]⟩, 0⟩ _ HL5.out (by show (⟨#[120]⟩ : ByteArray).size ≤ 1000; decide) (by omega)).mono ?_
       rintro e w6 ⟨g6, n6, k6, rfl, l6, hb6⟩
       have HE6 := hid (HE5.out.next hb6)
       have HL6 := hid l6
       clear hb6 l6 HE5 HL5
       go_wp2_with fail
       refine (put_one ⟨24, 0, 0, ⟨#[]⟩, 0⟩ _ HL6.out (by show (⟨#[]⟩ : ByteArray).size ≤ 1000; decide) (by omega)).mono ?_
       rintro e w7 ⟨g7, n7, k7, rfl, l7, hb7⟩
       have HE7 := hid (HE6.out.next hb7)
       have HL7 := hid l7
       clear hb7 l7 HE6 HL6
       have hb8 : w7.heap[rb]? = some (.cells #[.slice none 0 0] 25 (0, 0)) := (HE7.out.sv.block rb (by have := (Array.getElem?_eq_some_iff.1 HBX.out).1; exact this) (by show ¬ rb = R; omega)).trans HBX.out
       have r0 := cell_hp hb8 0
       have rf := frozen_hp hb8 0
       simp at r0
       have HB8 := hid hb8
       clear hb8
       go_wp2
       refine bodyPost_ret (v := .agg #[.slice (some ⟨g7, 0, none⟩) n7 k7]) (by simp [results, Tryz.results32, go_sem, r0]) rfl ⟨g7, n7, k7, rfl, ?_, ?_, ?_⟩
       ·obtain ⟨l, h1, h2⟩ := HL7.out
        refine ⟨l, h1.keep fun g cur hc => Below.heap_setCell _ _ _ _ (fun e => ?_), h2.mono (by omega)⟩
        have e' : g = rb := e
        subst e'
        rw [HB8.out] at hc
        cases hc
       ·obtain ⟨p9, hp9, hr9⟩ := HE7.out.rd
        exact ⟨p9, by omega, hr9.sv (S := fun k => k = rb) (Sv.setCell (S := fun k => k = rb) (Sv.refl _ w7) (p := ⟨rb, 0, none⟩) (.inl rfl) _) (fun k e => by subst e; omega)⟩
       ·have b1 : BR R w W0 := BR.of_below HB0.out (by omega)
        have b2 : BR R W0 w7 := BR.of_sv HE7.out.sv (by omega)
        exact (b1.trans b2).set (by omega) (by rw [HRB.out]; exact Nat.le_refl _) _
def RowIn (W : World) (g : Nat) (l : List Nd) : Prop := ∃ cur, W.heap[g]? = some (.cells cur 33 (0, 0)) ∧ ∀ (j : Nat) u, (ndRow l)[j]? = some u → cur[j]? = some u
theorem RowIn.keep {W V : World} {g : Nat} {l : List Nd} (h : RowIn W g l) (hk : V.heap[g]? = W.heap[g]?) : RowIn V g l := by
 obtain ⟨cur, h1, h2⟩ := h
 exact ⟨cur, hk.trans h1, h2⟩
theorem RowIn.lt {W : World} {g : Nat} {l : List Nd} (h : RowIn W g l) : g < W.heap.size := by
 obtain ⟨cur, h1, _⟩ := h
 exact (Array.getElem?_eq_some_iff.1 h1).1
theorem NdIn.row {W : World} {g n c : Nat} {l : List Nd} (h : NdIn W (.slice (some ⟨g, 0, none⟩) n c) l) : n = l.length ∧ n ≤ c ∧ RowIn W g l := by
 obtain ⟨_, g', c', cur, e, h1, h2⟩ := h
 cases e
 exact ⟨rfl, Nat.le_add_right _ _, cur, h1, h2⟩
theorem RowIn.nd {W : World} {g c : Nat} {l : List Nd} (h : RowIn W g l) (h0 : l ≠ []) (hc : l.length ≤ c) : NdIn W (.slice (some ⟨g, 0, none⟩) l.length c) l := by
 obtain ⟨cur, h1, h2⟩ := h
 exact ⟨h0, g, c - l.length, cur, by congr 1; omega, h1, h2⟩
def ndF (x : Nd) : List Value := [.int .i64 x.kind, .int .i64 x.op, .int .i64 x.n, .string x.text, .int .i64 x.kids]
theorem ndRow_cons (x : Nd) (l : List Nd) : ndRow (x :: l) = ndF x ++ ndRow l := rfl
theorem ndRow_get : ∀ (l : List Nd) (i t : Nat) (hi : i < l.length), t < 5 → (ndRow l)[i * 5 + t]? = (ndF l[i])[t]?
 | x :: l, 0, t, _, ht => by
  rw [ndRow_cons, Nat.zero_mul, Nat.zero_add, List.getElem?_append_left (by show t < 5; exact ht)]
  rfl
 | x :: l, i + 1, t, hi, ht => by
  have hi' : i < l.length := by simpa using hi
  rw [ndRow_cons, List.getElem?_append_right (by show 5 ≤ (i + 1) * 5 + t; omega)]
  have : (i + 1) * 5 + t - (ndF x).length = i * 5 + t := by show (i + 1) * 5 + t - 5 = _; omega
  rw [this, ndRow_get l i t hi' ht]
  rfl
theorem RowIn.cell {W : World} {g : Nat} {l : List Nd} (h : RowIn W g l) (i : Nat) (hi : i < l.length) : W.cell? ⟨g, i * 5, none⟩ = some (.int .i64 l[i].kind) ∧ W.cell? ⟨g, i * 5 + 1, none⟩ = some (.int .i64 l[i].op) ∧ W.cell? ⟨g, i * 5 + 2, none⟩ = some (.int .i64 l[i].n) ∧ W.cell? ⟨g, i * 5 + 3, none⟩ = some (.string l[i].text) ∧ W.cell? ⟨g, i * 5 + 4, none⟩ = some (.int .i64 l[i].kids) := by
 obtain ⟨cur, h1, h2⟩ := h
 have f : ∀ t u, t < 5 → (ndF l[i])[t]? = some u → W.cell? ⟨g, i * 5 + t, none⟩ = some u := fun t u ht hu => by
  rw [← ndRow_get l i t hi ht] at hu
  exact (cell_hp h1 _).trans (h2 _ _ hu)
 exact ⟨f 0 _ (by decide) rfl, f 1 _ (by decide) rfl, f 2 _ (by decide) rfl, f 3 _ (by decide) rfl, f 4 _ (by decide) rfl⟩
theorem RowIn.frozen {W : World} {g : Nat} {l : List Nd} (h : RowIn W g l) (i : Nat) : W.frozen? ⟨g, i, none⟩ = false := by
 obtain ⟨cur, h1, _⟩ := h
 exact frozen_hp h1 i
theorem RowIn.set {W : World} {g : Nat} {l : List Nd} (h : RowIn W g l) (i t : Nat) (hi : i < l.length) (ht : t < 5) (v : Value) (y : Nd) (hy : ndF y = (ndF l[i]).set t v) : RowIn (W.setCell ⟨g, i * 5 + t, none⟩ v) g (l.set i y) := by
 obtain ⟨cur, h1, h2⟩ := h
 refine ⟨_, set_at v h1, fun j u hu => ?_⟩
 have hlen : j < l.length * 5 := by
  have := (List.getElem?_eq_some_iff.1 hu).1
  rw [ndRow_length] at this
  simpa using this
 have hcur : ∀ k, k < l.length * 5 → k < cur.size := fun k hk => by
  have hk' : k < (ndRow l).length := by rw [ndRow_length]; exact hk
  have := h2 k _ (List.getElem?_eq_getElem hk')
  exact (Array.getElem?_eq_some_iff.1 this).1
 obtain ⟨a, b, rfl, hb⟩ : ∃ a b, j = a * 5 + b ∧ b < 5 := ⟨j / 5, j % 5, by omega, by omega⟩
 have ha : a < l.length := by omega
 rw [ndRow_get _ a b (by simpa using ha) hb] at hu
 by_cases e : a = i
 ·subst e
  rw [List.getElem_set_self, hy] at hu
  by_cases e2 : b = t
  ·subst e2
   rw [List.getElem?_set_self (by show b < 5; exact hb)] at hu
   cases hu
   rw [Array.getElem?_setIfInBounds_self_of_lt (hcur _ hlen)]
  ·rw [List.getElem?_set_ne (fun h => e2 h.symm), ← ndRow_get l a b ha hb] at hu
   rw [Array.getElem?_setIfInBounds_ne (by omega)]
   exact h2 _ _ hu
 ·rw [List.getElem_set_ne (fun h => e h.symm), ← ndRow_get l a b ha hb] at hu
  rw [Array.getElem?_setIfInBounds_ne (by omega)]
  exact h2 _ _ hu
theorem RowIn.other {W : World} {g b i : Nat} {l : List Nd} {v : Value} (h : RowIn W g l) (hb : b ≠ g) : RowIn (W.setCell ⟨b, i, none⟩ v) g l := h.keep (Below.heap_setCell _ _ _ _ (fun e => hb e.symm))
structure SI (R tb rb ob gt g ct cap P : Nat) (w : World) (l0 l : List Nd) (wr : World) : Prop where
 rd : ∃ p, p ≤ P ∧ Rd R wr p
 xt : wr.heap[tb]? = some (.cells #[.slice (some ⟨gt, 0, none⟩) l0.length ct] 25 (0, 0))
 xr : wr.heap[rb]? = some (.cells #[.slice none 0 0] 25 (0, 0))
 xo : wr.heap[ob]? = some (.cells #[.slice (some ⟨g, 0, none⟩) l.length cap] 25 (0, 0))
 rt : RowIn wr gt l0
 ro : RowIn wr g l
 sv : Sv (fun k => k = R) w wr
 lo : w.heap.size ≤ tb ∧ tb < rb ∧ rb < ob ∧ w.heap.size ≤ g ∧ gt < w.heap.size
 lt : R < w.heap.size
 cp : l0.length ≤ ct ∧ l.length ≤ cap
section
variable {R tb rb ob gt g ct cap P : Nat} {w : World} {l0 l : List Nd} {wr : World}
theorem SI.next (h : SI R tb rb ob gt g ct cap P w l0 l wr) {w2 : World} (hb : Below wr.heap.size wr w2) : SI R tb rb ob gt g ct cap P w l0 l w2 := by
 obtain ⟨⟨p, a1, a2⟩, h1, h2, h3, h4, h5, h6, h7, h8, h9⟩ := h
 exact ⟨⟨p, a1, a2.next hb⟩, hp_next h1 hb, hp_next h2 hb, hp_next h3 hb, h4.keep (hb.block _ h4.lt), h5.keep (hb.block _ h5.lt), h6.trans (Sv.of_below hb), h7, h8, h9⟩
theorem SI.pick (h : SI R tb rb ob gt g ct cap P w l0 l wr) (hP : P ≤ 1000000) (n : Int) (hn : n ≤ 1000000000) :
  Calls Tryz.prog 17 #[.pointer (some ⟨R, 0, none⟩), .int .i64 n] wr fun e w2 => ∃ x : Nat, e = .returned (.int .i64 x) ∧ (x = 0 ∨ (x : Int) < n) ∧ SI R tb rb ob gt g ct cap (P + 1) w l0 l w2 ∧ Sv (fun k => k = R) wr w2 := by
 obtain ⟨⟨p, a1, a2⟩, h1, h2, h3, h4, h5, h6, h7, h8, h9⟩ := h
 have a2b := a2
 obtain ⟨ad, m, cp, hR, _⟩ := a2b
 refine (pick_any R p n wr (by omega) hn a2).mono ?_
 rintro e w2 ⟨⟨x, rfl, hx⟩, b1, b2⟩
 have keep : ∀ (k : Nat) cs t fr, wr.heap[k]? = some (.cells cs t fr) → t ≠ 66 → w2.heap[k]? = wr.heap[k]? := fun k cs t fr hc ht => b2.block k (Array.getElem?_eq_some_iff.1 hc).1 (fun e => by
  have e' : k = R := e
  subst e'
  rw [hR] at hc
  cases hc
  exact ht rfl)
 obtain ⟨c4, d4, _⟩ := id h4
 obtain ⟨c5, d5, _⟩ := id h5
 exact ⟨x, rfl, hx, ⟨⟨p + 1, by omega, b1⟩, (keep tb _ _ _ h1 (by decide)).trans h1, (keep rb _ _ _ h2 (by decide)).trans h2, (keep ob _ _ _ h3 (by decide)).trans h3, h4.keep (keep gt _ _ _ d4 (by decide)), h5.keep (keep g _ _ _ d5 (by decide)), h6.trans b2, h7, h8, h9⟩, b2⟩
theorem SI.boxed (h : SI R tb rb ob gt g ct cap P w l0 l wr) {b i : Nat} (v : Value) (h1 : w.heap.size ≤ b) (h2 : b ≠ tb ∧ b ≠ rb ∧ b ≠ ob ∧ b ≠ g) : SI R tb rb ob gt g ct cap P w l0 l (wr.setCell ⟨b, i, none⟩ v) := by
 obtain ⟨⟨p, a1, a2⟩, h3, h4, h5, h6, h7, h8, h9, h10, h11⟩ := h
 have keep : ∀ k, k ≠ b → (wr.setCell ⟨b, i, none⟩ v).heap[k]? = wr.heap[k]? := fun k hk => Below.heap_setCell _ _ _ _ hk
 exact ⟨⟨p, a1, a2.sv (S := fun k => k = b) (Sv.setCell (S := fun k => k = b) (Sv.refl _ wr) (p := ⟨b, i, none⟩) (.inl rfl) _) (fun k e => by subst e; omega)⟩, (keep tb (fun e => h2.1 e.symm)).trans h3, (keep rb (fun e => h2.2.1 e.symm)).trans h4, (keep ob (fun e => h2.2.2.1 e.symm)).trans h5, h6.keep (keep gt (by omega)), h7.keep (keep g (fun e => h2.2.2.2 e.symm)), h8.setCell (.inr h1) _, h9, h10, h11⟩
end
section
variable {R tb rb ob gt g ct cap P : Nat} {w : World} {l0 l : List Nd} {wr : World}
theorem SI.mono (h : SI R tb rb ob gt g ct cap P w l0 l wr) {P' : Nat} (hP : P ≤ P') : SI R tb rb ob gt g ct cap P' w l0 l wr := by
 obtain ⟨⟨p, a1, a2⟩, h3, h4, h5, h6, h7, h8, h9, h10, h11⟩ := h
 exact ⟨⟨p, by omega, a2⟩, h3, h4, h5, h6, h7, h8, h9, h10, h11⟩
theorem SI.apart (h : SI R tb rb ob gt g ct cap P w l0 l wr) : g ≠ tb ∧ g ≠ rb ∧ g ≠ ob ∧ g ≠ gt := by
 obtain ⟨_, h3, h4, h5, _, h7, _, h9, _, _⟩ := h
 obtain ⟨cur, h7, _⟩ := h7
 have f : ∀ k cs, wr.heap[k]? = some (.cells cs 25 (0, 0)) → g ≠ k := fun k cs hc e => by
  subst e
  rw [h7] at hc
  cases hc
 exact ⟨f _ _ h3, f _ _ h4, f _ _ h5, by omega⟩
theorem SI.set1 (h : SI R tb rb ob gt g ct cap P w l0 l wr) (i t : Nat) (hi : i < l.length) (ht : t < 5) (v : Value) (y : Nd) (hy : ndF y = (ndF l[i]).set t v) : SI R tb rb ob gt g ct cap P w l0 (l.set i y) (wr.setCell ⟨g, i * 5 + t, none⟩ v) := by
 have ha := h.apart
 obtain ⟨⟨p, a1, a2⟩, h3, h4, h5, h6, h7, h8, h9, h10, h11⟩ := h
 have keep : ∀ k, k ≠ g → (wr.setCell ⟨g, i * 5 + t, none⟩ v).heap[k]? = wr.heap[k]? := fun k hk => Below.heap_setCell _ _ _ _ hk
 refine ⟨⟨p, a1, a2.sv (S := fun k => k = g) (Sv.setCell (S := fun k => k = g) (Sv.refl _ wr) (p := ⟨g, i * 5 + t, none⟩) (.inl rfl) _) (fun k e => by subst e; omega)⟩, (keep tb (fun e => ha.1 e.symm)).trans h3, (keep rb (fun e => ha.2.1 e.symm)).trans h4, ?_, h6.keep (keep gt (fun e => ha.2.2.2 e.symm)), h7.set i t hi ht v y hy, h8.setCell (.inr h9.2.2.2.1) _, h9, h10, h11.1, by simpa using h11.2⟩
 have := (keep ob (fun e => ha.2.2.1 e.symm)).trans h5
 simpa using this
theorem SI.put (h : SI R tb rb ob gt g ct cap P w l0 l wr) (i : Nat) (hi : i < l.length) (y : Nd) : SI R tb rb ob gt g ct cap P w l0 (l.set i y) (((((wr.setCell ⟨g, i * 5, none⟩ (.int .i64 y.kind)).setCell ⟨g, i * 5 + 1, none⟩ (.int .i64 y.op)).setCell ⟨g, i * 5 + 2, none⟩ (.int .i64 y.n)).setCell ⟨g, i * 5 + 3, none⟩ (.string y.text)).setCell ⟨g, i * 5 + 4, none⟩ (.int .i64 y.kids)) := by
 have s0 := h.set1 i 0 hi (by decide) (.int .i64 y.kind) { l[i] with kind := y.kind } rfl
 have s1 := s0.set1 i 1 (by simpa using hi) (by decide) (.int .i64 y.op) { l[i] with kind := y.kind, op := y.op } (by rw [List.getElem_set_self]; rfl)
 rw [List.set_set] at s1
 have s2 := s1.set1 i 2 (by simpa using hi) (by decide) (.int .i64 y.n) { l[i] with kind := y.kind, op := y.op, n := y.n } (by rw [List.getElem_set_self]; rfl)
 rw [List.set_set] at s2
 have s3 := s2.set1 i 3 (by simpa using hi) (by decide) (.string y.text) { l[i] with kind := y.kind, op := y.op, n := y.n, text := y.text } (by rw [List.getElem_set_self]; rfl)
 rw [List.set_set] at s3
 have s4 := s3.set1 i 4 (by simpa using hi) (by decide) (.int .i64 y.kids) y (by rw [List.getElem_set_self]; rfl)
 rw [List.set_set] at s4
 exact s4
theorem NdOk.set {K : Nat} {l : List Nd} (h : NdOk K l) (i : Nat) (y : Nd) (hy : y.text.size ≤ 1000) : NdOk K (l.set i y) := by
 refine ⟨by simpa using h.1, fun x hx => ?_⟩
 rcases List.mem_or_eq_of_mem_set hx with h1 | rfl
 ·exact h.2 x h1
 ·exact hy
theorem SI.fin (h : SI R tb rb ob gt g ct cap P w l0 l wr) {K : Nat} (hok : NdOk K l) (h0 : l ≠ []) : Has K (wr.setCell ⟨rb, 0, none⟩ (.slice (some ⟨g, 0, none⟩) l.length cap)) (.slice (some ⟨g, 0, none⟩) l.length cap) ∧ (∃ p', p' ≤ P ∧ Rd R (wr.setCell ⟨rb, 0, none⟩ (.slice (some ⟨g, 0, none⟩) l.length cap)) p') ∧ BR R w (wr.setCell ⟨rb, 0, none⟩ (.slice (some ⟨g, 0, none⟩) l.length cap)) := by
 have ha := h.apart
 obtain ⟨⟨p, a1, a2⟩, h3, h4, h5, h6, h7, h8, h9, h10, h11⟩ := h
 refine ⟨⟨l, (h7.other (fun e => ha.2.1 e.symm)).nd h0 h11.2, hok⟩, ⟨p, a1, a2.sv (S := fun k => k = rb) (Sv.setCell (S := fun k => k = rb) (Sv.refl _ wr) (p := ⟨rb, 0, none⟩) (.inl rfl) _) (fun k e => by subst e; omega)⟩, (BR.of_sv h8 (by omega)).set (by omega) (by omega) _⟩
end
theorem SI.start {R p gt ct : Nat} {w w1 : World} {l : List Nd} {v1 : Value} (hr : Rd R w p) (hl : RowIn w gt l) (h0 : l ≠ []) (hct : l.length ≤ ct)
  (hg : (((w.alloc (.cells #[.slice (some ⟨gt, 0, none⟩) l.length ct] 25)).alloc (.cells #[.slice none 0 0] 25)).alloc (.cells #[] 33)).grownBy w1 (some (w.heap.size + 2))) (ho : w1.ownsRow (w.heap.size + 2) 33 5 v1 l.length (ndRow l)) :
  ∃ g cap, v1 = .slice (some ⟨g, 0, none⟩) l.length cap ∧ SI R w.heap.size (w.heap.size + 1) w1.heap.size gt g ct cap p w l l (w1.alloc (.cells #[.slice (some ⟨g, 0, none⟩) l.length cap] 25)) := by
 have hlp : 0 < l.length := List.length_pos_iff.2 h0
 have hb : Below w.heap.size w (((w.alloc (.cells #[.slice (some ⟨gt, 0, none⟩) l.length ct] 25)).alloc (.cells #[.slice none 0 0] 25)).alloc (.cells #[] 33)) := (((Below.refl w.heap.size w).alloc (Nat.le_refl _) _).alloc (by simp) _).alloc (by simp; omega) _
 have hb1 : Below w.heap.size w w1 := hb.grown hg hb.size (fun q e => by cases e; omega)
 have hz : w.heap.size + 3 ≤ w1.heap.size := by have := hg.size; simp at this; omega
 have hal : Below w1.heap.size w1 (w1.alloc (.cells #[v1] 25)) := (Below.refl _ _).alloc (Nat.le_refl _) _
 have hx : w1.heap[w.heap.size]? = some (.cells #[.slice (some ⟨gt, 0, none⟩) l.length ct] 25) := by
  rw [hg.block w.heap.size (by simp; omega) (by simp), Below.heap_alloc _ _ _ (by simp; omega), Below.heap_alloc _ _ _ (by simp)]
  exact heap_alloc_new w _
 have hy : w1.heap[w.heap.size + 1]? = some (.cells #[.slice none 0 0] 25) := by
  rw [hg.block (w.heap.size + 1) (by simp) (by simp), Below.heap_alloc _ _ _ (by simp)]
  have := heap_alloc_new (w.alloc (.cells #[.slice (some ⟨gt, 0, none⟩) l.length ct] 25)) (.cells #[.slice none 0 0] 25)
  rwa [World.size_alloc] at this
 rcases ho.2 with ⟨_, hz0⟩ | ⟨g, cap, cur, hv, hgl, hgc, hcap, _, _, ht⟩
 ·omega
 ·subst hv
  refine ⟨g, cap, rfl, ⟨p, Nat.le_refl _, (hr.next hb1).next hal⟩, hp_next hx hal, hp_next hy hal, heap_alloc_new w1 _, hl.keep ((hal.block _ (by have := hl.lt; omega)).trans (hb1.block _ hl.lt)), ⟨cur, hp_next hgc hal, fun j u hu => ?_⟩, Sv.of_below (hb1.trans (hal.mono hb1.size)), ⟨Nat.le_refl _, by omega, by omega, by omega, hl.lt⟩, hr.lt, hct, hcap⟩
  rw [← ht] at hu
  have hj := (List.getElem?_eq_some_iff.1 hu).1
  rw [List.length_take] at hj
  rw [List.getElem?_take_of_lt (by omega)] at hu
  simpa using hu
def TrIn (K : Nat) (w : World) (v : Value) : Prop := (∃ ad c, v = .slice ad 0 c) ∨ Has K w v
theorem TrIn.mono {K K' : Nat} {w : World} {v : Value} (h : TrIn K w v) (hk : K ≤ K') : TrIn K' w v := by
 rcases h with h | ⟨l, h1, h2⟩
 ·exact .inl h
 ·exact .inr ⟨l, h1, h2.mono hk⟩
theorem own_tr {W : World} {base m : Nat} {v : Value} {l : List Nd} (h : W.ownsRow base 33 5 v m (ndRow l)) (hm : m = l.length) : (∃ ad c, v = .slice ad m c ∧ (m = 0 ∨ ∃ g, ad = some ⟨g, 0, none⟩ ∧ base ≤ g ∧ m ≤ c ∧ RowIn W g l)) ∧ ∀ b, v.ownBlock = some b → base ≤ b := by
 obtain ⟨_, ⟨rfl, h0⟩ | ⟨g, cap, cur, rfl, hgl, hgc, hcap, _, _, ht⟩⟩ := h
 ·exact ⟨⟨none, 0, by rw [h0], .inl h0⟩, fun b e => by simp [Value.ownBlock] at e⟩
 ·refine ⟨⟨_, cap, rfl, .inr ⟨g, rfl, hgl, hcap, cur, hgc, fun j u hu => ?_⟩⟩, fun b e => by simp [Value.ownBlock] at e; omega⟩
  rw [← ht] at hu
  have hj := (List.getElem?_eq_some_iff.1 hu).1
  rw [List.length_take] at hj
  rw [List.getElem?_take_of_lt (by omega)] at hu
  simpa using hu
structure SE (R P : Nat) (w wr : World) : Prop where
 rd : ∃ p, p ≤ P ∧ Rd R wr p
 sv : Sv (fun k => k = R) w wr
 lt : R < w.heap.size
theorem SI.se {R tb rb ob gt g ct cap P : Nat} {w : World} {l0 l : List Nd} {wr : World} (h : SI R tb rb ob gt g ct cap P w l0 l wr) : SE R P w wr := ⟨h.rd, h.sv, h.lt⟩
theorem SE.set {R P : Nat} {w wr : World} (h : SE R P w wr) {b i : Nat} (v : Value) (hb : w.heap.size ≤ b) : SE R P w (wr.setCell ⟨b, i, none⟩ v) := by
 obtain ⟨⟨p, a1, a2⟩, h8, h10⟩ := h
 exact ⟨⟨p, a1, a2.sv (S := fun k => k = b) (Sv.setCell (S := fun k => k = b) (Sv.refl _ wr) (p := ⟨b, i, none⟩) (.inl rfl) _) (fun k e => by subst e; omega)⟩, h8.setCell (.inr hb) _, h10⟩
theorem SE.fin {R P K : Nat} {w wr : World} (h : SE R P w wr) {ad : Option Addr} {m c : Nat} {l : List Nd} (ht : m = 0 ∨ ∃ g, ad = some ⟨g, 0, none⟩ ∧ m ≤ c ∧ RowIn wr g l) (hm : m = l.length) (hk : NdOk K l) : TrIn K wr (.slice ad m c) ∧ (∃ p', p' ≤ P ∧ Rd R wr p') ∧ BR R w wr := by
 obtain ⟨⟨p, a1, a2⟩, h8, h10⟩ := h
 refine ⟨?_, ⟨p, a1, a2⟩, BR.of_sv h8 (by omega)⟩
 by_cases h0 : m = 0
 ·subst h0
  exact .inl ⟨ad, c, rfl⟩
 ·rcases ht with h | ⟨g, rfl, h1, h2⟩
  ·exact absurd h h0
  ·subst hm
   exact .inr ⟨l, h2.nd (fun e => h0 (by rw [e]; rfl)) h1, hk⟩
theorem NdOk.cut {K : Nat} {l : List Nd} (h : NdOk K l) (k : Nat) : NdOk K (l.take k ++ l.drop (k + 1)) := by
 refine ⟨by have := h.1; rw [List.length_append, List.length_take, List.length_drop]; omega, fun x hx => ?_⟩
 rcases List.mem_append.1 hx with h1 | h1
 ·exact h.2 x (List.mem_of_mem_take h1)
 ·exact h.2 x (List.mem_of_mem_drop h1)
theorem RowIn.part {W : World} {g : Nat} {l : List Nd} (h : RowIn W g l) (k : Nat) (hk : k ≤ l.length) : (∀ (j : Nat) u, (ndRow (l.take k))[j]? = some u → W.cell? ((⟨g, 0, none⟩ : Addr).add j) = some u) ∧ ∀ (j : Nat) u, (ndRow (l.drop k))[j]? = some u → W.cell? ((⟨g, k * 5, none⟩ : Addr).add j) = some u := by
 obtain ⟨cur, h1, h2⟩ := h
 have e : ndRow l = ndRow (l.take k) ++ ndRow (l.drop k) := by rw [← ndRow_append, List.take_append_drop]
 have hl : (ndRow (l.take k)).length = k * 5 := by rw [ndRow_length, List.length_take]; congr 1; omega
 constructor
 ·intro j u hu
  rw [add_none, Nat.zero_add]
  refine (cell_hp h1 _).trans (h2 _ _ ?_)
  rw [e, List.getElem?_append_left (List.getElem?_eq_some_iff.1 hu).1]
  exact hu
 ·intro j u hu
  rw [add_none]
  refine (cell_hp h1 _).trans (h2 _ _ ?_)
  rw [e, List.getElem?_append_right (by omega), hl, Nat.add_sub_cancel_left]
  exact hu
set_option maxHeartbeats 2000000 in
theorem l1Many_k (s : ByteArray) (n : Nat) (w : World) (h : s.size * n ≤ 1000) (hn : n ≤ 1000) (hs : s.size ≤ 1000) :
  Calls Tryz.prog 34 #[.string s, .int .i64 n] w fun e w' => (∃ t : ByteArray, e = .returned (.string t) ∧ t.size ≤ 1000) ∧ w' = w := by
 go_enter Tryz.func34, Tryz.ntmps34
 go_wp2
 go_loopw [0, 1, 5] (fun a b c wr => ∃ (s o : ByteArray) (k : Nat), a = .string s ∧ b = .int .i64 k ∧ c = .string o ∧ o.size + s.size * k ≤ 1000 ∧ k ≤ 1000 ∧ s.size ≤ 2000 ∧ wr = w) (fun _ b _ _ => (intOf b).toNat)
 case atStart => exact ⟨s, ⟨#[]⟩, n, rfl, rfl, rfl, by show 0 + s.size * n ≤ 1000; omega, hn, by omega, rfl⟩
 case round =>
  obtain ⟨s, o, k, rfl, rfl, rfl, h1, h2, h3, rfl⟩ := hrel
  by_cases hk : 0 < k
  ·have hk2 : s.size ≤ s.size * k := Nat.le_mul_of_pos_right _ hk
   have hd : k = 2 * (k / 2) + k % 2 := (Nat.div_add_mod k 2).symm
   have hq : (k : Int) / 2 = ((k / 2 : Nat) : Int) := by omega
   have hr : (k : Int) % 2 = ((k % 2 : Nat) : Int) := by omega
   have he : s.size * k = s.size * 2 * (k / 2) + s.size * (k % 2) := by
    conv => lhs; rw [hd]
    rw [Nat.mul_add, Nat.mul_assoc]
   obtain ⟨m, hm⟩ : ∃ m, k / 2 = m := ⟨_, rfl⟩
   rw [hm] at hq he
   rcases Nat.mod_two_eq_zero_or_one k with hz | hz
   ·rw [hz] at hr he
    have HX := hid (show o.size + (s.size + s.size) * m ≤ 1000 ∧ m < k from ⟨by rw [Nat.mul_zero, Nat.add_zero] at he; rw [← Nat.mul_two]; omega, by omega⟩)
    clear he hd
    go_wp2
    go_roundw
    case rel => exact ⟨s ++ s, o, m, rfl, by go_num, rfl, by rw [ByteArray.size_append]; exact HX.out.1, by have := HX.out.2; omega, by rw [ByteArray.size_append]; omega, by trivial⟩
    case measure => have := HX.out.2; simp [intOf]; omega
   ·rw [hz] at hr he
    have HX := hid (show o.size + s.size + (s.size + s.size) * m ≤ 1000 ∧ m < k from ⟨by rw [Nat.mul_one] at he; rw [← Nat.mul_two]; omega, by omega⟩)
    clear he hd
    go_wp2
    go_roundw
    case rel => exact ⟨s ++ s, o ++ s, m, rfl, by go_num, rfl, by rw [ByteArray.size_append, ByteArray.size_append]; exact HX.out.1, by have := HX.out.2; omega, by rw [ByteArray.size_append]; omega, by trivial⟩
    case measure => have := HX.out.2; simp [intOf]; omega
  ·go_wp2
   go_ret
   exact ⟨⟨o, rfl, by omega⟩, rfl⟩
set_option maxHeartbeats 400000 in
theorem l1In_q (x lo hi : Int) (w : World) :
  Calls Tryz.prog 23 #[.int .i64 x, .int .i64 lo, .int .i64 hi] w fun e w' => e = .returned (.bool (decide (lo ≤ x) && decide (x ≤ hi))) ∧ w' = w := by
 go_enter Tryz.func23, Tryz.ntmps23
 go_wp2
 all_goals go_ret
 all_goals exact ⟨ret_bool (by rw [Bool.eq_iff_iff]; simp; try omega), rfl⟩
theorem l1In_b (x lo hi : Int) (w : World) : Calls Tryz.prog 23 #[.int .i64 x, .int .i64 lo, .int .i64 hi] w fun e w' => (∃ b : Bool, e = .returned (.bool b)) ∧ w' = w := (l1In_q x lo hi w).mono fun _ _ h => ⟨⟨_, h.1⟩, h.2⟩
theorem NdOk.ins {K : Nat} {l : List Nd} (h : NdOk K l) (j : Nat) (y : Nd) (hy : y.text.size ≤ 1000) : NdOk (K + 1) (l.take j ++ [y] ++ l.drop j) := by
 refine ⟨by have := h.1; rw [List.length_append, List.length_append, List.length_take, List.length_drop]; simp; omega, fun x hx => ?_⟩
 rcases List.mem_append.1 hx with h1 | h1
 ·rcases List.mem_append.1 h1 with h2 | h2
  ·exact h.2 x (List.mem_of_mem_take h2)
  ·rw [List.mem_singleton.1 h2]
   exact hy
 ·exact h.2 x (List.mem_of_mem_drop h1)
end Go.Proofs.YtbakebdfmdepnaaGreatDoor
