import Derived.Test.YtcjgcipacfcjnaaGreatDoorJ21
import Derived.Test.YtcjgcipacfcjnaaGreatDoorJ17
namespace Go.Proofs.YtcjgcipacfcjnaaGreatDoor.C
open Go.RowKit
set_option maxRecDepth 20000
def AftEnd (i : In) (p : Nat) (w : World) (e : Ending) (w' : World) : Prop := ∃ v, e = .returned v ∧ IntRow w' v (nums (goes i p)) ∧ Below w.heap.size w w' ∧ (nums (goes i p) = [] ∨ ∃ g c, v = .slice (some ⟨g, 0, none⟩) (nums (goes i p)).length c ∧ w.heap.size ≤ g)
theorem after_lit {i : In} {p : Nat} {w W : World} (lo : Below w.heap.size w W) (l : List Int) (hl : l.length ≤ 2) (h : nums (goes i p) = l) : AftEnd i p w (.returned (.slice (some ⟨W.heap.size, 0, none⟩) l.length l.length)) (W.alloc (.cells (l.map fun x => Value.int .i64 x).toArray 3)) := by
 refine ⟨_, rfl, ?_, ?_, ?_⟩
 ·rw [h]
  exact IntRow.lit _ l (by omega)
 ·exact lo.alloc lo.size _
 ·rw [h]
  exact .inr ⟨_, _, rfl, lo.size⟩
set_option maxHeartbeats 2000000 in
theorem after_fresh {fns : List Fn} {f : Fn} {b : Nat} {cv pv iv xv wv : Value} {w : World} (hM : MS fns f b cv pv iv xv wv w) {p : Nat} (hp : p < f.ins.length) (hp2 : p ≤ 100000) (hR : InsR fns f (f.ins.getD p in0)) :
  Calls Tryz.prog 126 #[.pointer (some ⟨b, 0, none⟩), .int .i64 p] w (AftEnd (f.ins.getD p in0) p w) := by
 obtain ⟨m0, m1, m2, m3, m4, m5, m6, m7⟩ := mx hM
 obtain ⟨gI, cI, rfl, hgI, hcI⟩ := hM.ir.at hp
 obtain ⟨d0, d1, d2, d3⟩ := hcI p hp
 obtain ⟨i, hi⟩ : ∃ i, f.ins.getD p in0 = i := ⟨_, rfl⟩
 rw [hi] at d0 d1 d2 d3 hR ⊢
 have hop := hR.op
 have ha := hR.place
 have hpi : (p : Int) < (f.ins.length : Int) := by omega
 have hw : IntKind.i64.wrap ((p : Int) + 1) = ((p + 1 : Nat) : Int) := by rw [IntKind.wrap_i64]; omega
 have HLO : Hid (Below w.heap.size w (w.alloc (ibox i))) := hid ((Below.refl _ _).alloc (Nat.le_refl _) _)
 obtain ⟨j0, j1, j2, j3⟩ := ix (ibox_new w i)
 clear hM hcI hR hi
 go_enter Tryz.func126, Tryz.ntmps126
 go_upto_region 2 with fail
 obtain ⟨W1, hW1⟩ : ∃ W, w.alloc (ibox i) = W := ⟨_, rfl⟩
 rw [hW1] at HLO j0 j1 j2 j3
 unfold ibox at hW1
 rw [hW1]
 clear hW1 d0 d1 d2 d3 m0 m1 m2 m3 m4 m5 m6 m7
 by_cases h12 : i.op = 12 ∨ i.op = 13
 ·have HG : Hid (nums (goes i p) = []) := hid (by simp [goes, nums, h12])
  rcases h12 with h | h
  all_goals
   rw [h] at j0
   clear h hop ha
   go_wp2_with fail
   go_ret
   exact ⟨_, rfl, by rw [HG.out]; exact IntRow.nil _, HLO.out, .inl HG.out⟩
 ·have e12 : (i.op == 12) = false := by simp; omega
  have e13 : (i.op == 13) = false := by simp; omega
  by_cases h10 : i.op = 10
  ·obtain ⟨m, hm⟩ : ∃ m : Nat, i.a = m := ⟨i.a.toNat, by have := ha (.inl h10); omega⟩
   have HG : Hid (nums (goes i p) = [(m : Int)]) := hid (by simp [goes, nums, h10, hm])
   rw [h10] at j0
   rw [hm] at j1
   clear h12 h10 hop ha hm
   go_wp2_with fail
   go_ret
   have := after_lit HLO.out [(m : Int)] (by simp) HG.out
   simpa using this
  ·have e10 : (i.op == 10) = false := by simpa using h10
   by_cases h11 : i.op = 11
   ·obtain ⟨m, hm⟩ : ∃ m : Nat, i.a = m := ⟨i.a.toNat, by have := ha (.inr h11); omega⟩
    have HG : Hid (nums (goes i p) = [(m : Int), ((p + 1 : Nat) : Int)]) := hid (by simp [goes, nums, h11, hm])
    rw [h11] at j0
    rw [hm] at j1
    clear h12 h10 h11 hop ha hm
    go_wp2_with fail
    go_ret
    have := after_lit HLO.out [(m : Int), ((p + 1 : Nat) : Int)] (by simp) HG.out
    simpa using this
   ·have e11 : (i.op == 11) = false := by simpa using h11
    have HG : Hid (nums (goes i p) = [((p + 1 : Nat) : Int)]) := hid (by simp [goes, nums, h12, h10, h11])
    clear h12 h10 h11 hop ha
    go_wp2_with fail
    go_ret
    have := after_lit HLO.out [((p + 1 : Nat) : Int)] (by simp) HG.out
    simpa using this
theorem after_any {fns : List Fn} {f : Fn} {b : Nat} {cv pv iv xv wv : Value} {w : World} (hM : MS fns f b cv pv iv xv wv w) {p : Nat} (hp : p < f.ins.length) (hp2 : p ≤ 100000) (hR : InsR fns f (f.ins.getD p in0)) :
  Calls Tryz.prog 126 #[.pointer (some ⟨b, 0, none⟩), .int .i64 p] w (GoesEnd (f.ins.getD p in0) p w) := by
 refine (after_fresh hM hp hp2 hR).mono ?_
 rintro e w' ⟨v, h1, h2, h3, _⟩
 exact ⟨v, h1, h2, h3⟩
end Go.Proofs.YtcjgcipacfcjnaaGreatDoor.C
namespace Go.Proofs.YtcjgcipacfcjnaaGreatDoor.C
open Go.RowKit
theorem fitL_all : ∀ (a t : List Int), fitL a t = true ↔ a.length = t.length ∧ ∀ z, z < a.length → fitK (a.getD z 0) (t.getD z 0) = true
 | [], [] => by simp [fitL]
 | [], _ :: _ => by simp [fitL]
 | _ :: _, [] => by simp [fitL]
 | x :: a, y :: t => by
  have ih := fitL_all a t
  simp only [fitL, Bool.and_eq_true, ih, List.length_cons]
  constructor
  ·rintro ⟨h1, h2, h3⟩
   refine ⟨by omega, fun z hz => ?_⟩
   cases z with
   | zero => simpa using h1
   | succ z => simpa using h3 z (by omega)
  ·rintro ⟨h1, h2⟩
   exact ⟨by simpa using h2 0 (by omega), by omega, fun z hz => by simpa using h2 (z + 1) (by omega)⟩
theorem eq_iff_get {a t : List Int} (hl : a.length = t.length) : t = a ↔ ∀ z, z < a.length → a.getD z 0 = t.getD z 0 := by
 constructor
 ·intro h z _; rw [h]
 ·intro h
  apply List.ext_getElem (by omega)
  intro z h1 h2
  have := h z h2
  simpa [List.getD_eq_getElem?_getD, h1, h2] using this.symm
def AllT (fns : List Fn) (f : Fn) (i : In) (tk : List Int) : Prop := ∀ z, z < takesN fns i → tkB fns f i z (tk.getD z 0) = true
theorem fit_neg {k : Int} (hk : 1 ≤ k) : fitK (-1) k = isI k := by
 unfold fitK
 have : ¬ (-1 : Int) = k := by omega
 simp [this]
theorem fit_pos {q k : Int} (hq : ¬ q = -1) : fitK q k = decide (q = k) := by unfold fitK; simp [hq]
theorem whn_pos {p : Prop} [Decidable p] {l : List Int} (h : p) : whn p l = some l := by unfold whn; rw [if_pos h]
theorem whn_neg {p : Prop} [Decidable p] {l : List Int} (h : ¬ p) : whn p l = none := by unfold whn; rw [if_neg h]
theorem getD1 {l : List Int} (h : ∀ x ∈ l, 1 ≤ x ∧ x ≤ 10) {z : Nat} (hz : z < l.length) : 1 ≤ l.getD z 0 ∧ l.getD z 0 ≤ 10 := by
 rw [List.getD_eq_getElem?_getD, List.getElem?_eq_getElem hz]
 exact h _ (List.getElem_mem hz)
theorem eff_put {fns : List Fn} {f : Fn} {i : In} (hi : InsR fns f i) (_hF : ∀ g ∈ fns, FnR fns g) {sl tk : List Int} (hr : ∀ x ∈ tk, 1 ≤ x ∧ x ≤ 10) (hl : tk.length = takesN fns i) :
  (AllT fns f i tk → (putR fns i sl tk).2 = true → eff fns f i sl tk = some (putR fns i sl tk).1) ∧ (¬ (AllT fns f i tk ∧ (putR fns i sl tk).2 = true) → eff fns f i sl tk = none) := by
 obtain ⟨op, a, n, tx⟩ := i
 have hop := hi.op
 dsimp only at hop
 obtain rfl | rfl | rfl | rfl | rfl | rfl | rfl | rfl | rfl | rfl | rfl | rfl | rfl | rfl | rfl | rfl : op = 1 ∨ op = 2 ∨ op = 3 ∨ op = 4 ∨ op = 5 ∨ op = 6 ∨ op = 7 ∨ op = 8 ∨ op = 9 ∨ op = 10 ∨ op = 11 ∨ op = 12 ∨ op = 13 ∨ op = 14 ∨ op = 15 ∨ op = 16 := by omega
 ·have hp := hi.push rfl
  dsimp only at hp
  have ha : ¬ a = 0 := by omega
  have hT : AllT fns f ⟨1, a, n, tx⟩ tk := fun z hz => by simp [takesN] at hz
  have hP : putR fns ⟨1, a, n, tx⟩ sl tk = ([a], true) := by simp [putR, putsT, putK, ha]
  rw [hP]
  exact ⟨fun _ _ => by simp [eff], fun h => absurd ⟨hT, rfl⟩ h⟩
 ·have hT : AllT fns f ⟨2, a, n, tx⟩ tk := fun z hz => by simp [takesN] at hz
  have hP : putR fns ⟨2, a, n, tx⟩ sl tk = ([sl.getD a.toNat 0], decide (¬ sl.getD a.toNat 0 = 0)) := by simp [putR, putsT, putK]
  have hE : eff fns f ⟨2, a, n, tx⟩ sl tk = opt (sl.getD a.toNat 0) := by simp [eff]
  rw [hP, hE]
  unfold opt
  refine ⟨fun _ h => ?_, fun h => ?_⟩
  ·rw [if_neg (by simpa using h)]
  ·rw [if_pos (Decidable.byContradiction fun h9 => h ⟨hT, by simpa using h9⟩)]
 ·have hT : AllT fns f ⟨3, a, n, tx⟩ tk := fun z hz => by
   obtain rfl : z = 0 := by simp [takesN] at hz; omega
   simp [tkB, takesT]
  have hP : putR fns ⟨3, a, n, tx⟩ sl tk = ([], true) := by simp [putR, putsT]
  rw [hP]
  exact ⟨fun _ _ => by simp [eff], fun h => absurd ⟨hT, rfl⟩ h⟩
 ·have hT : AllT fns f ⟨4, a, n, tx⟩ tk := fun z hz => by
   obtain rfl : z = 0 := by simp [takesN] at hz; omega
   simp [tkB, takesT]
  have hP : putR fns ⟨4, a, n, tx⟩ sl tk = ([], true) := by simp [putR, putsT]
  rw [hP]
  exact ⟨fun _ _ => by simp [eff], fun h => absurd ⟨hT, rfl⟩ h⟩
 ·have hT : AllT fns f ⟨5, a, n, tx⟩ tk := fun z hz => by
   obtain rfl : z = 0 := by simp [takesN] at hz; omega
   simp [tkB, takesT]
  have hP : putR fns ⟨5, a, n, tx⟩ sl tk = ([unG a (tk.getD 0 0)], decide (¬ unG a (tk.getD 0 0) = 0)) := by simp [putR, putsT, putK]
  have hE : eff fns f ⟨5, a, n, tx⟩ sl tk = opt (unG a (tk.getD 0 0)) := by simp [eff]
  rw [hP, hE]
  unfold opt
  refine ⟨fun _ h => ?_, fun h => ?_⟩
  ·rw [if_neg (by simpa using h)]
  ·rw [if_pos (Decidable.byContradiction fun h9 => h ⟨hT, by simpa using h9⟩)]
 ·have hT : AllT fns f ⟨6, a, n, tx⟩ tk := fun z hz => by
   obtain rfl | rfl : z = 0 ∨ z = 1 := by simp [takesN] at hz; omega
   ·simp [tkB, takesT]
   ·simp [tkB, takesT]
  have hP : putR fns ⟨6, a, n, tx⟩ sl tk = ([binG a (tk.getD 0 0) (tk.getD 1 0)], decide (¬ binG a (tk.getD 0 0) (tk.getD 1 0) = 0)) := by simp [putR, putsT, putK]
  have hE : eff fns f ⟨6, a, n, tx⟩ sl tk = opt (binG a (tk.getD 0 0) (tk.getD 1 0)) := by simp [eff]
  rw [hP, hE]
  unfold opt
  refine ⟨fun _ h => ?_, fun h => ?_⟩
  ·rw [if_neg (by simpa using h)]
  ·rw [if_pos (Decidable.byContradiction fun h9 => h ⟨hT, by simpa using h9⟩)]
 ·have hp := hi.conv rfl
  dsimp only at hp
  have ha : ¬ a = 0 := by omega
  have h0 : 0 < tk.length := by rw [hl]; simp [takesN]
  have hT : AllT fns f ⟨7, a, n, tx⟩ tk ↔ isI (tk.getD 0 0) = true := by
   have e : tkB fns f ⟨7, a, n, tx⟩ 0 (tk.getD 0 0) = isI (tk.getD 0 0) := by
    have : tkB fns f ⟨7, a, n, tx⟩ 0 (tk.getD 0 0) = fitK (-1) (tk.getD 0 0) := by simp [tkB, takesT]
    rw [this, fit_neg (getD1 hr h0).1]
   constructor
   ·intro h; rw [← e]; exact h 0 (by simp [takesN])
   ·intro h z hz
    obtain rfl : z = 0 := by simp [takesN] at hz; omega
    rw [e]; exact h
  have hP : putR fns ⟨7, a, n, tx⟩ sl tk = ([a], true) := by simp [putR, putsT, putK, ha]
  have hE : eff fns f ⟨7, a, n, tx⟩ sl tk = whn (isI (tk.getD 0 0) = true) [a] := by simp [eff]
  rw [hP, hE]
  exact ⟨fun h _ => whn_pos (hT.1 h), fun h => whn_neg fun h9 => h ⟨hT.2 h9, rfl⟩⟩
 ·have hs := sig_range a
  have ha : ¬ (sig a).2 = 0 := by omega
  have hn : takesN fns ⟨8, a, n, tx⟩ = (sig a).1.length := by simp [takesN]
  have hT : AllT fns f ⟨8, a, n, tx⟩ tk ↔ fitL (sig a).1 tk = true := by
   rw [fitL_all]
   have e : ∀ z, tkB fns f ⟨8, a, n, tx⟩ z (tk.getD z 0) = fitK ((sig a).1.getD z 0) (tk.getD z 0) := fun z => by simp [tkB]
   constructor
   ·intro h; exact ⟨by rw [hl, hn], fun z hz => by rw [← e]; exact h z (by rw [hn]; exact hz)⟩
   ·intro h z hz; rw [e]; exact h.2 z (by rw [← hn]; exact hz)
  have hP : putR fns ⟨8, a, n, tx⟩ sl tk = ([(sig a).2], true) := by simp [putR, putsT, putK, ha]
  have hE : eff fns f ⟨8, a, n, tx⟩ sl tk = whn (fitL (sig a).1 tk = true) [(sig a).2] := by simp [eff]
  rw [hP, hE]
  exact ⟨fun h _ => whn_pos (hT.1 h), fun h => whn_neg fun h9 => h ⟨hT.2 h9, rfl⟩⟩
 ·have hn : takesN fns ⟨9, a, n, tx⟩ = (fns.getD a.toNat fn0).params.length := by simp [takesN]
  have hT : AllT fns f ⟨9, a, n, tx⟩ tk ↔ tk = (fns.getD a.toNat fn0).params := by
   rw [eq_iff_get (by rw [hl, hn])]
   have e : ∀ z, tkB fns f ⟨9, a, n, tx⟩ z (tk.getD z 0) = decide ((fns.getD a.toNat fn0).params.getD z 0 = tk.getD z 0) := fun z => by simp [tkB]
   constructor
   ·intro h z hz
    have := h z (by rw [hn]; exact hz)
    rw [e] at this
    simpa using this
   ·intro h z hz
    rw [e]
    simpa using h z (by rw [← hn]; exact hz)
  have hE : eff fns f ⟨9, a, n, tx⟩ sl tk = whn (tk = (fns.getD a.toNat fn0).params) (if (fns.getD a.toNat fn0).result = 0 then [] else [(fns.getD a.toNat fn0).result]) := by simp [eff]
  by_cases hz : (fns.getD a.toNat fn0).result = 0
  ·have hP : putR fns ⟨9, a, n, tx⟩ sl tk = ([], true) := (if_neg (show ¬ putsT 9 = 0 by decide)).trans (if_pos ⟨rfl, hz⟩)
   rw [hP, hE, if_pos hz]
   exact ⟨fun h _ => whn_pos (hT.1 h), fun h => whn_neg fun h9 => h ⟨hT.2 h9, rfl⟩⟩
  ·have hP : putR fns ⟨9, a, n, tx⟩ sl tk = ([(fns.getD a.toNat fn0).result], true) := (if_neg (show ¬ putsT 9 = 0 by decide)).trans ((if_neg fun h => hz h.2).trans (by
    have e : putK fns ⟨9, a, n, tx⟩ sl tk = (fns.getD a.toNat fn0).result := rfl
    rw [e]
    have : decide (¬ (fns.getD a.toNat fn0).result = 0) = true := by rw [decide_eq_true_iff]; exact hz
    rw [this]))
   rw [hP, hE, if_neg hz]
   exact ⟨fun h _ => whn_pos (hT.1 h), fun h => whn_neg fun h9 => h ⟨hT.2 h9, rfl⟩⟩
 ·have hT : AllT fns f ⟨10, a, n, tx⟩ tk := fun z hz => by simp [takesN] at hz
  have hP : putR fns ⟨10, a, n, tx⟩ sl tk = ([], true) := by simp [putR, putsT]
  rw [hP]
  exact ⟨fun _ _ => by simp [eff], fun h => absurd ⟨hT, rfl⟩ h⟩
 ·have hT : AllT fns f ⟨11, a, n, tx⟩ tk ↔ tk.getD 0 0 = 1 := by
   have e : tkB fns f ⟨11, a, n, tx⟩ 0 (tk.getD 0 0) = decide ((1 : Int) = tk.getD 0 0) := by
    have : tkB fns f ⟨11, a, n, tx⟩ 0 (tk.getD 0 0) = fitK 1 (tk.getD 0 0) := by simp [tkB, takesT]
    rw [this, fit_pos (by decide)]
   constructor
   ·intro h
    have := h 0 (by simp [takesN])
    rw [e] at this
    exact (by simpa using this : (1 : Int) = tk.getD 0 0).symm
   ·intro h z hz
    obtain rfl : z = 0 := by simp [takesN] at hz; omega
    rw [e, h]; rfl
  have hP : putR fns ⟨11, a, n, tx⟩ sl tk = ([], true) := by simp [putR, putsT]
  have hE : eff fns f ⟨11, a, n, tx⟩ sl tk = whn (tk.getD 0 0 = 1) [] := by simp [eff]
  rw [hP, hE]
  exact ⟨fun h _ => whn_pos (hT.1 h), fun h => whn_neg fun h9 => h ⟨hT.2 h9, rfl⟩⟩
 ·have hT : AllT fns f ⟨12, a, n, tx⟩ tk ↔ (a = 0 ∨ tk.getD 0 0 = f.result) := by
   have e : ∀ z, tkB fns f ⟨12, a, n, tx⟩ z (tk.getD z 0) = decide (f.result = tk.getD z 0) := fun z => by simp [tkB]
   have hret := hi.ret rfl
   dsimp only at hret
   rcases hret with ⟨ha, _⟩ | ⟨ha, _⟩
   ·subst ha
    constructor
    ·intro h
     have := h 0 (by simp [takesN])
     rw [e] at this
     exact .inr (by simpa using this : f.result = tk.getD 0 0).symm
    ·intro h z hz
     obtain rfl : z = 0 := by simp [takesN] at hz; omega
     rw [e]
     rcases h with h | h
     ·cases h
     ·rw [h]; simp
   ·subst ha
    constructor
    ·intro _; exact .inl rfl
    ·intro _ z hz; simp [takesN] at hz
  have hP : putR fns ⟨12, a, n, tx⟩ sl tk = ([], true) := by simp [putR, putsT]
  have hE : eff fns f ⟨12, a, n, tx⟩ sl tk = whn (a = 0 ∨ tk.getD 0 0 = f.result) [] := by simp [eff]
  rw [hP, hE]
  exact ⟨fun h _ => whn_pos (hT.1 h), fun h => whn_neg fun h9 => h ⟨hT.2 h9, rfl⟩⟩
 ·have hT : AllT fns f ⟨13, a, n, tx⟩ tk ↔ tk.getD 0 0 = 2 := by
   have e : tkB fns f ⟨13, a, n, tx⟩ 0 (tk.getD 0 0) = decide ((2 : Int) = tk.getD 0 0) := by
    have : tkB fns f ⟨13, a, n, tx⟩ 0 (tk.getD 0 0) = fitK 2 (tk.getD 0 0) := by simp [tkB, takesT]
    rw [this, fit_pos (by decide)]
   constructor
   ·intro h
    have := h 0 (by simp [takesN])
    rw [e] at this
    exact (by simpa using this : (2 : Int) = tk.getD 0 0).symm
   ·intro h z hz
    obtain rfl : z = 0 := by simp [takesN] at hz; omega
    rw [e, h]; rfl
  have hP : putR fns ⟨13, a, n, tx⟩ sl tk = ([], true) := by simp [putR, putsT]
  have hE : eff fns f ⟨13, a, n, tx⟩ sl tk = whn (tk.getD 0 0 = 2) [] := by simp [eff]
  rw [hP, hE]
  exact ⟨fun h _ => whn_pos (hT.1 h), fun h => whn_neg fun h9 => h ⟨hT.2 h9, rfl⟩⟩
 ·have hT : AllT fns f ⟨14, a, n, tx⟩ tk ↔ (tk.getD 0 0 = 2 ∧ tk.getD 1 0 = 2) := by
   have e0 : tkB fns f ⟨14, a, n, tx⟩ 0 (tk.getD 0 0) = decide ((2 : Int) = tk.getD 0 0) := by
    have : tkB fns f ⟨14, a, n, tx⟩ 0 (tk.getD 0 0) = fitK 2 (tk.getD 0 0) := by simp [tkB, takesT]
    rw [this, fit_pos (by decide)]
   have e1 : tkB fns f ⟨14, a, n, tx⟩ 1 (tk.getD 1 0) = decide ((2 : Int) = tk.getD 1 0) := by
    have : tkB fns f ⟨14, a, n, tx⟩ 1 (tk.getD 1 0) = fitK 2 (tk.getD 1 0) := by simp [tkB, takesT]
    rw [this, fit_pos (by decide)]
   constructor
   ·intro h
    have h0 := h 0 (by simp [takesN])
    have h1 := h 1 (by simp [takesN])
    rw [e0] at h0
    rw [e1] at h1
    exact ⟨(by simpa using h0 : (2 : Int) = tk.getD 0 0).symm, (by simpa using h1 : (2 : Int) = tk.getD 1 0).symm⟩
   ·rintro ⟨h0, h1⟩ z hz
    obtain rfl | rfl : z = 0 ∨ z = 1 := by simp [takesN] at hz; omega
    ·rw [e0, h0]; rfl
    ·rw [e1, h1]; rfl
  have hP : putR fns ⟨14, a, n, tx⟩ sl tk = ([], true) := by simp [putR, putsT]
  have hE : eff fns f ⟨14, a, n, tx⟩ sl tk = whn (tk.getD 0 0 = 2 ∧ tk.getD 1 0 = 2) [] := by simp [eff]
  rw [hP, hE]
  exact ⟨fun h _ => whn_pos (hT.1 h), fun h => whn_neg fun h9 => h ⟨hT.2 h9, rfl⟩⟩
 ·have hT : AllT fns f ⟨15, a, n, tx⟩ tk ↔ tk.getD 0 0 = 2 := by
   have e : tkB fns f ⟨15, a, n, tx⟩ 0 (tk.getD 0 0) = decide ((2 : Int) = tk.getD 0 0) := by
    have : tkB fns f ⟨15, a, n, tx⟩ 0 (tk.getD 0 0) = fitK 2 (tk.getD 0 0) := by simp [tkB, takesT]
    rw [this, fit_pos (by decide)]
   constructor
   ·intro h
    have := h 0 (by simp [takesN])
    rw [e] at this
    exact (by simpa using this : (2 : Int) = tk.getD 0 0).symm
   ·intro h z hz
    obtain rfl : z = 0 := by simp [takesN] at hz; omega
    rw [e, h]; rfl
  have hP : putR fns ⟨15, a, n, tx⟩ sl tk = ([], true) := by simp [putR, putsT]
  have hE : eff fns f ⟨15, a, n, tx⟩ sl tk = whn (tk.getD 0 0 = 2) [] := by simp [eff]
  rw [hP, hE]
  exact ⟨fun h _ => whn_pos (hT.1 h), fun h => whn_neg fun h9 => h ⟨hT.2 h9, rfl⟩⟩
 ·have hT : AllT fns f ⟨16, a, n, tx⟩ tk := fun z hz => by simp [takesN] at hz
  have hP : putR fns ⟨16, a, n, tx⟩ sl tk = ([], true) := by simp [putR, putsT]
  rw [hP]
  exact ⟨fun _ _ => by simp [eff], fun h => absurd ⟨hT, rfl⟩ h⟩
theorem goes_in {fns : List Fn} {f : Fn} {p : Nat} (hp : p < f.ins.length) (hi : InsR fns f (f.ins.getD p in0)) : (∀ g ∈ goes (f.ins.getD p in0) p, g < f.ins.length) ↔ ¬ (f.ins.length : Int) ∈ nums (goes (f.ins.getD p in0) p) := by
 have hle : ∀ g ∈ goes (f.ins.getD p in0) p, g ≤ f.ins.length := by
  intro g hg
  have hpl := hi.place
  generalize f.ins.getD p in0 = i at hg hpl
  unfold goes at hg
  split at hg
  ·simp at hg
  ·split at hg
   ·rename_i h
    simp at hg
    have := hpl (.inl h)
    omega
   ·split at hg
    ·rename_i h
     simp at hg
     have := hpl (.inr h)
     omega
    ·simp at hg
     omega
 unfold nums
 rw [List.mem_map]
 constructor
 ·rintro h ⟨g, hg, e⟩
  have := h g hg
  omega
 ·intro h g hg
  have h1 := hle g hg
  rcases Nat.lt_or_ge g f.ins.length with h2 | h2
  ·exact h2
  ·exact absurd ⟨g, hg, by omega⟩ h
end Go.Proofs.YtcjgcipacfcjnaaGreatDoor.C
namespace Go.Proofs.YtcjgcipacfcjnaaGreatDoor.C
open Go.RowKit
set_option maxRecDepth 20000
def LyRow (W : World) (g n : Nat) (A : Nat → Sh) : Prop := ∃ cur : Array Value, W.heap[g]? = some (.cells cur 187 (0, 0)) ∧ cur.size = n * 3 ∧ ∀ i, i < n → cur[i * 3]? = some (.int .i64 ((A i).st : Nat)) ∧ cur[i * 3 + 1]? = some (.string (kt (A i).sl)) ∧ cur[i * 3 + 2]? = some (.string (kt (A i).sk))
theorem LyRow.lt {W : World} {g n : Nat} {A : Nat → Sh} (h : LyRow W g n A) : g < W.heap.size := by
 obtain ⟨cur, e, _⟩ := h
 exact lt_hp e
theorem LyRow.keep {W V : World} {g n : Nat} {A : Nat → Sh} (h : LyRow W g n A) (hg : V.heap[g]? = W.heap[g]?) : LyRow V g n A := by
 obtain ⟨cur, e, hz⟩ := h
 exact ⟨cur, hg.trans e, hz⟩
theorem LyRow.next {W V : World} {g n : Nat} {A : Nat → Sh} (h : LyRow W g n A) (hb : Below W.heap.size W V) : LyRow V g n A := h.keep (hb.block g h.lt)
theorem LyRow.at {W : World} {g n : Nat} {A : Nat → Sh} (h : LyRow W g n A) {i : Nat} (hi : i < n) : W.cell? ⟨g, i * 3, none⟩ = some (.int .i64 ((A i).st : Nat)) ∧ W.cell? ⟨g, i * 3 + 1, none⟩ = some (.string (kt (A i).sl)) ∧ W.cell? ⟨g, i * 3 + 2, none⟩ = some (.string (kt (A i).sk)) ∧ W.frozen? ⟨g, i * 3, none⟩ = false ∧ W.frozen? ⟨g, i * 3 + 1, none⟩ = false ∧ W.frozen? ⟨g, i * 3 + 2, none⟩ = false := by
 obtain ⟨cur, e, hz, h1⟩ := h
 obtain ⟨e0, e1, e2⟩ := h1 i hi
 exact ⟨(cell_hp e _).trans e0, (cell_hp e _).trans e1, (cell_hp e _).trans e2, frozen_hp e _, frozen_hp e _, frozen_hp e _⟩
theorem LyRow.set {W : World} {g n : Nat} {A : Nat → Sh} (h : LyRow W g n A) {i : Nat} (hi : i < n) (s : Sh) : LyRow (((W.setCell ⟨g, i * 3, none⟩ (.int .i64 (s.st : Nat))).setCell ⟨g, i * 3 + 1, none⟩ (.string (kt s.sl))).setCell ⟨g, i * 3 + 2, none⟩ (.string (kt s.sk))) g n (upd A i s) := by
 obtain ⟨cur, e, hz, h1⟩ := h
 refine ⟨_, set_cells (set_cells (set_cells e _ _) _ _) _ _, by simp [hz], fun q hq => ?_⟩
 by_cases hqi : q = i
 ·subst hqi
  rw [upd_at]
  refine ⟨?_, ?_, ?_⟩
  ·rw [Array.getElem?_setIfInBounds_ne (by omega), Array.getElem?_setIfInBounds_ne (by omega), Array.getElem?_setIfInBounds_self_of_lt (by omega)]
  ·rw [Array.getElem?_setIfInBounds_ne (by omega), Array.getElem?_setIfInBounds_self_of_lt (by simp; omega)]
  ·rw [Array.getElem?_setIfInBounds_self_of_lt (by simp; omega)]
 ·rw [upd_ne _ _ hqi]
  obtain ⟨e0, e1, e2⟩ := h1 q hq
  refine ⟨?_, ?_, ?_⟩
  ·rw [Array.getElem?_setIfInBounds_ne (by omega), Array.getElem?_setIfInBounds_ne (by omega), Array.getElem?_setIfInBounds_ne (by omega)]; exact e0
  ·rw [Array.getElem?_setIfInBounds_ne (by omega), Array.getElem?_setIfInBounds_ne (by omega), Array.getElem?_setIfInBounds_ne (by omega)]; exact e1
  ·rw [Array.getElem?_setIfInBounds_ne (by omega), Array.getElem?_setIfInBounds_ne (by omega), Array.getElem?_setIfInBounds_ne (by omega)]; exact e2
def LvEnd (fns : List Fn) (f : Fn) (p : Nat) (s : Sh) (w : World) (e : Ending) (w' : World) : Prop := ∃ (st : Int) (u v : ByteArray) (fit : Bool), e = .returned (.tuple #[.agg #[.int .i64 st, .string u, .string v], .bool fit]) ∧ (fit = true → .agg #[.int .i64 st, .string u, .string v] = lv (behind fns f p s)) ∧ (fit = false ↔ behind fns f p s = top) ∧ Below w.heap.size w w'
structure LX (fns : List Fn) (f : Fn) (w : World) (b : Nat) (cv pv iv wv : Value) (gL : Nat) (A : Nat → Sh) (b6 b7 : Nat) (s : Sh) (i : In) (W : World) : Prop where
 lo : Below w.heap.size w W
 ms : MS fns f b cv pv iv (.slice (some ⟨gL, 0, none⟩) f.ins.length f.ins.length) wv W
 ly : LyRow W gL f.ins.length A
 en : EnvI W
 e4 : W.heap[w.heap.size]? = some (lbox 0 ⟨#[]⟩ ⟨#[]⟩)
 e6 : W.heap[b6]? = some (lbox (s.st : Nat) (kt s.sl) (kt s.sk))
 e7 : W.heap[b7]? = some (ibox i)
theorem LX.next {fns : List Fn} {f : Fn} {w : World} {b : Nat} {cv pv iv wv : Value} {gL : Nat} {A : Nat → Sh} {b6 b7 : Nat} {s : Sh} {i : In} {W V : World} (h : LX fns f w b cv pv iv wv gL A b6 b7 s i W) (hb : Below W.heap.size W V) : LX fns f w b cv pv iv wv gL A b6 b7 s i V :=
 ⟨h.lo.trans (hb.mono h.lo.size), h.ms.next hb, h.ly.next hb, h.en.next hb, hp_next h.e4 hb, hp_next h.e6 hb, hp_next h.e7 hb⟩
theorem LX.start1 {fns : List Fn} {f : Fn} {w : World} {b : Nat} {cv pv iv wv : Value} {gL : Nat} {A : Nat → Sh} {s : Sh} {i : In} {W0 : World} (lo : Below w.heap.size w W0) (ms : MS fns f b cv pv iv (.slice (some ⟨gL, 0, none⟩) f.ins.length f.ins.length) wv W0) (ly : LyRow W0 gL f.ins.length A) (en : EnvI W0) (e4 : W0.heap[w.heap.size]? = some (lbox 0 ⟨#[]⟩ ⟨#[]⟩)) :
  LX fns f w b cv pv iv wv gL A (W0.heap.size + 1) W0.heap.size s i ((W0.alloc (ibox i)).alloc (lbox (s.st : Nat) (kt s.sl) (kt s.sk))).drew ∧ LX fns f w b cv pv iv wv gL A W0.heap.size (W0.heap.size + 1) s i ((W0.alloc (lbox (s.st : Nat) (kt s.sl) (kt s.sk))).alloc (ibox i)).drew := by
 obtain ⟨t0, t1, hb, _⟩ := two W0 (ibox i) (lbox (s.st : Nat) (kt s.sl) (kt s.sk))
 obtain ⟨r0, r1, hb2, _⟩ := two W0 (lbox (s.st : Nat) (kt s.sl) (kt s.sk)) (ibox i)
 have k1 := hb.drew
 have k2 := hb2.drew
 exact ⟨⟨lo.trans (k1.mono lo.size), ms.next k1, ly.next k1, en.next k1, hp_next e4 k1, t1, t0⟩, ⟨lo.trans (k2.mono lo.size), ms.next k2, ly.next k2, en.next k2, hp_next e4 k2, r0, r1⟩⟩
theorem lv_none {fns : List Fn} {f : Fn} {p : Nat} {s : Sh} {w W : World} (lo : Below w.heap.size w W) (h : behind fns f p s = top) : LvEnd fns f p s w (.returned (.tuple #[.agg #[.int .i64 0, .string ⟨#[]⟩, .string ⟨#[]⟩], .bool false])) W :=
 ⟨0, _, _, false, rfl, (fun h => by cases h), by simp [h], lo⟩
theorem kt_set {sl : List Int} {q : Nat} (hq : q < sl.length) (x : Int) : kt (sl.take q) ++ kt [x] ++ kt (sl.drop (q + 1)) = kt (sl.set q x) := by
 rw [← kt_append, ← kt_append, List.set_eq_take_append_cons_drop, if_pos hq]
 simp
structure LM (fns : List Fn) (f : Fn) (p : Nat) (s : Sh) (i : In) (B : Nat) (tk : List Int) : Prop where
 st : s.st = 1
 ins : f.ins.getD p in0 = i
 ir : InsR fns f i
 fr : ∀ g ∈ fns, FnR fns g
 len : s.sk.length = B + tk.length
 dr : s.sk.drop B = tk
 nt : takesN fns i = tk.length
 go : ∀ g ∈ goes i p, g < f.ins.length
 rg : ∀ x ∈ tk, 1 ≤ x ∧ x ≤ 10
theorem LM.drop {fns : List Fn} {f : Fn} {p : Nat} {s : Sh} {i : In} {B : Nat} {tk : List Int} (h : LM fns f p s i B tk) : s.sk.length - takesN fns (f.ins.getD p in0) = B := by rw [h.ins, h.nt]; have := h.len; omega
theorem LM.shape {fns : List Fn} {f : Fn} {p : Nat} {s : Sh} {i : In} {B : Nat} {tk : List Int} (h : LM fns f p s i B tk) : s = ⟨1, s.sl, s.sk⟩ := by
 have := h.st
 cases s
 simp at this
 rw [this]
theorem LM.bad {fns : List Fn} {f : Fn} {p : Nat} {s : Sh} {i : In} {B : Nat} {tk : List Int} (h : LM fns f p s i B tk) (hn : ¬ (AllT fns f i tk ∧ (putR fns i s.sl tk).2 = true)) : behind fns f p s = top := by
 rw [h.shape]
 refine behind_bad fun _ => ?_
 rw [h.drop, h.dr, h.ins]
 exact (eff_put h.ir h.fr h.rg h.nt.symm).2 hn
theorem LM.good {fns : List Fn} {f : Fn} {p : Nat} {s : Sh} {i : In} {B : Nat} {tk : List Int} (h : LM fns f p s i B tk) (ha : AllT fns f i tk) (hp : (putR fns i s.sl tk).2 = true) : behind fns f p s = if B + (putR fns i s.sl tk).1.length ≤ 600 then ⟨1, if i.op = 3 then s.sl.set i.a.toNat (s.sk.getLastD 0) else s.sl, s.sk.take B ++ (putR fns i s.sl tk).1⟩ else top := by
 have := behind_in (fns := fns) (f := f) (p := p) (sl := s.sl) (sk := s.sk) (l := (putR fns i s.sl tk).1) (by rw [h.ins, h.nt]; have := h.len; omega) (by rw [h.ins]; exact h.go) (by rw [h.drop, h.dr, h.ins]; exact (eff_put h.ir h.fr h.rg h.nt.symm).1 ha hp)
 rw [h.drop, h.ins] at this
 rw [← this, ← h.shape]
theorem LM.last {fns : List Fn} {f : Fn} {p : Nat} {s : Sh} {i : In} {B : Nat} {tk : List Int} (h : LM fns f p s i B tk) (h3 : i.op = 3) : tk.length = 1 ∧ s.sk.getLastD 0 = tk.getD 0 0 := by
 have hl : tk.length = 1 := by rw [← h.nt]; simp [takesN, h3]
 refine ⟨hl, ?_⟩
 have hle := h.len
 have hB : B < s.sk.length := by omega
 have hne : s.sk ≠ [] := fun e => by rw [e] at hB; exact absurd hB (Nat.not_lt_zero _)
 have hq : s.sk.length - 1 = B := by omega
 rw [← h.dr, List.getLastD_eq_getLast?, List.getLast?_eq_getElem?, hq, List.getD_eq_getElem?_getD, List.getElem?_drop, Nat.add_zero]
theorem put_len (fns : List Fn) (i : In) (sl tk : List Int) : (putR fns i sl tk).1.length ≤ 1 := by
 unfold putR
 (repeat' split) <;> simp
theorem lv_last {fns : List Fn} {f : Fn} {p : Nat} {s : Sh} {i : In} {B : Nat} {tk : List Int} (h : LM fns f p s i B tk) (ha : AllT fns f i tk) {w W : World} (lo : Below w.heap.size w W) {sl' : List Int} (hsl : sl' = if i.op = 3 then s.sl.set i.a.toNat (s.sk.getLastD 0) else s.sl) {fit : Bool} (hfit : fit = ((putR fns i s.sl tk).2 && decide (B + (putR fns i s.sl tk).1.length ≤ 600))) :
  LvEnd fns f p s w (.returned (.tuple #[.agg #[.int .i64 1, .string (kt sl'), .string (kt (s.sk.take B ++ (putR fns i s.sl tk).1))], .bool fit])) W := by
 refine ⟨1, _, _, fit, rfl, fun ht => ?_, ?_, lo⟩
 ·rw [hfit, Bool.and_eq_true, decide_eq_true_iff] at ht
  rw [h.good ha ht.1, if_pos ht.2, ← hsl]
  rfl
 ·by_cases hp : (putR fns i s.sl tk).2 = true
  ·rw [h.good ha hp]
   by_cases h6 : B + (putR fns i s.sl tk).1.length ≤ 600
   ·rw [if_pos h6]
    have hf : fit = true := by rw [hfit, hp]; simpa using h6
    rw [hf]
    constructor
    ·intro e; cases e
    ·intro e; injection e with e1 _ _; cases e1
   ·rw [if_neg h6]
    have hf : fit = false := by rw [hfit, hp]; simpa using h6
    exact ⟨fun _ => rfl, fun _ => hf⟩
  ·have hf : fit = false := by rw [hfit]; simp [hp]
   exact ⟨fun _ => h.bad fun h9 => hp h9.2, fun _ => hf⟩
theorem lv_last2 {fns : List Fn} {f : Fn} {p : Nat} {s : Sh} {i : In} {B : Nat} {tk l : List Int} {ok : Bool} (h : LM fns f p s i B tk) (ha : AllT fns f i tk) (hl : (putR fns i s.sl tk).1 = l) (hk : (putR fns i s.sl tk).2 = ok) {sl' : List Int} (hsl : sl' = if i.op = 3 then s.sl.set i.a.toNat (s.sk.getLastD 0) else s.sl) {fit : Bool} (hfit : fit = (ok && decide (B + l.length ≤ 600))) {w W : World} (lo : Below w.heap.size w W) :
  LvEnd fns f p s w (.returned (.tuple #[.agg #[.int .i64 1, .string (kt sl'), .string (kt (s.sk.take B ++ l))], .bool fit])) W := by
 subst hl hk
 exact lv_last h ha lo hsl hfit
theorem set3_l {W : World} {g : Nat} {st : Int} {x y : ByteArray} (e : W.heap[g]? = some (lbox st x y)) (st' : Int) (q r : ByteArray) : (((W.setCell ⟨g, 0, none⟩ (.int .i64 st')).setCell ⟨g, 1, none⟩ (.string q)).setCell ⟨g, 2, none⟩ (.string r)).heap[g]? = some (lbox st' q r) := by
 unfold World.setCell
 simp only [Array.getElem?_modify, e]
 simp [lbox]
structure LZ (w : World) (b6 b7 : Nat) (s : Sh) (i : In) (at5 : Option Addr) (ct5 : Nat) (tk : List Int) (x y : ByteArray) (W : World) : Prop where
 lo : Below w.heap.size w W
 e4 : W.heap[w.heap.size]? = some (lbox 1 x y)
 e6 : W.heap[b6]? = some (lbox (s.st : Nat) (kt s.sl) (kt s.sk))
 e7 : W.heap[b7]? = some (ibox i)
 row : IntRow W (.slice at5 tk.length ct5) tk
 n6 : ¬ b6 = w.heap.size
 n7 : ¬ b7 = w.heap.size
theorem LZ.next {w : World} {b6 b7 : Nat} {s : Sh} {i : In} {at5 : Option Addr} {ct5 : Nat} {tk : List Int} {x y : ByteArray} {W V : World} (h : LZ w b6 b7 s i at5 ct5 tk x y W) (hb : Below W.heap.size W V) : LZ w b6 b7 s i at5 ct5 tk x y V := ⟨h.lo.trans (hb.mono h.lo.size), hp_next h.e4 hb, hp_next h.e6 hb, hp_next h.e7 hb, h.row.next hb, h.n6, h.n7⟩
theorem LX.store {fns : List Fn} {f : Fn} {w : World} {b : Nat} {cv pv iv wv : Value} {gL : Nat} {A : Nat → Sh} {b6 b7 : Nat} {s : Sh} {i : In} {W : World} (h : LX fns f w b cv pv iv wv gL A b6 b7 s i W) (hst : s.st = 1) {at5 : Option Addr} {ct5 : Nat} {tk : List Int} (hr : IntRow W (.slice at5 tk.length ct5) tk) (x y : ByteArray) : LZ w b6 b7 s i at5 ct5 tk x y (((W.setCell ⟨w.heap.size, 0, none⟩ (.int .i64 1)).setCell ⟨w.heap.size, 1, none⟩ (.string x)).setCell ⟨w.heap.size, 2, none⟩ (.string y)).drew := by
 have n6 : ¬ b6 = w.heap.size := fun e => by
  have h6 := h.e6
  rw [e, h.e4, hst] at h6
  simp [lbox] at h6
 have n7 : ¬ b7 = w.heap.size := fun e => by
  have h7 := h.e7
  rw [e, h.e4] at h7
  simp [lbox, ibox] at h7
 refine ⟨(set_lo (set_lo (set_lo h.lo _ _ (Nat.le_refl _) _) _ _ (Nat.le_refl _) _) _ _ (Nat.le_refl _) _).drew, set3_l h.e4 1 x y, ?_, ?_, ?_, n6, n7⟩
 ·show (((W.setCell ⟨w.heap.size, 0, none⟩ (.int .i64 1)).setCell ⟨w.heap.size, 1, none⟩ (.string x)).setCell ⟨w.heap.size, 2, none⟩ (.string y)).heap[b6]? = _
  rw [set3_other n6]; exact h.e6
 ·show (((W.setCell ⟨w.heap.size, 0, none⟩ (.int .i64 1)).setCell ⟨w.heap.size, 1, none⟩ (.string x)).setCell ⟨w.heap.size, 2, none⟩ (.string y)).heap[b7]? = _
  rw [set3_other n7]; exact h.e7
 ·refine hr.keep fun k cur hk => ?_
  show (((W.setCell ⟨w.heap.size, 0, none⟩ (.int .i64 1)).setCell ⟨w.heap.size, 1, none⟩ (.string x)).setCell ⟨w.heap.size, 2, none⟩ (.string y)).heap[k]? = _
  exact set3_other (fun e => by rw [e, h.e4] at hk; simp [lbox] at hk) _ _ _ _ _ _
theorem row_ne {W : World} {g n c k : Nat} {l : List Int} (h : IntRow W (.slice (some ⟨g, 0, none⟩) n c) l) (hl : 0 < l.length) {st : Int} {x y : ByteArray} (e : W.heap[k]? = some (lbox st x y)) : ¬ g = k := by
 obtain ⟨ad, c', e1, _, _, h3⟩ := h
 injection e1 with ea _ _
 rcases h3 with h3 | ⟨g', cur, e2, e3, _⟩
 ·rw [h3] at hl; exact absurd hl (Nat.lt_irrefl _)
 ·rw [← ea] at e2
  injection e2 with e2
  injection e2 with e2
  intro hg
  rw [← e2, hg, e] at e3
  simp [lbox] at e3
theorem cell_set_ne (W : World) {g k : Nat} (h : ¬ k = g) (j i : Nat) (v : Value) : (W.setCell ⟨g, j, none⟩ v).cell? ⟨k, i, none⟩ = W.cell? ⟨k, i, none⟩ := by
 unfold World.cell?
 rw [set_other _ _ _ _ _ h]
end Go.Proofs.YtcjgcipacfcjnaaGreatDoor.C
