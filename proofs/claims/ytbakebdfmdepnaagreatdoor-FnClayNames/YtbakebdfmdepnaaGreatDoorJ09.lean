import Derived.Lib.Bytealg
import Derived.Lib.Strings
import Derived.BigCall
import Derived.Deep.QuietTactic
import Derived.Deep.RegionHeld3
import Derived.Test.YtbakebdfmdepnaaGreatDoorJ08
import Derived.Test.YtbakebdfmdepnaaGreatDoorJ00
import Derived.Test.YtbakebdfmdepnaaGreatDoorJ04
namespace Go.Proofs.YtbakebdfmdepnaaGreatDoor.K
open Go.RowKit
set_option maxRecDepth 20000
theorem head_eq (s : ByteArray) (hp : 0 < s.size) : s.data.toList = s[0] :: s.data.toList.tail := by
 match s, hp with
 | ⟨⟨c :: r⟩⟩, _ => rfl
 | ⟨⟨[]⟩⟩, h => exact absurd h (by decide)
theorem len_size (s : ByteArray) : s.data.toList.length = s.size := by simp
theorem notEmpty (s : ByteArray) (hp : 0 < s.size) : s.toList.isEmpty = false := by
 rw [Lib.toList_data, head_eq s hp]; rfl
end Go.Proofs.YtbakebdfmdepnaaGreatDoor.K
namespace Go.Proofs.YtbakebdfmdepnaaGreatDoor
open Go.RowKit
structure Gr (w : World) where
 W : World
 h : Below w.heap.size w W
theorem wp_region_gr {P : Program} {id : Nat} {Q : Exit → Act → World → Prop} {a : Act} {w : World} {l : List Oper} (hm : P.follows .mixedOrders = true) (hB : Region.lexB .any l.toArray = true)
  (h : wpQuiet P l.toArray (fun w' => ∃ p : Gr w, w' = p.W) (fun a' => ∀ w', (∃ p : Gr w, w' = p.W) → Q .normal a' w') l a) : (Code.region id l.toArray true).wp P Q a w :=
 wp_region_quiet (C := fun w' => ∃ p : Gr w, w' = p.W) hm hB ⟨⟨w.drew, (Below.refl _ _).drew⟩, rfl⟩ (by simpa using h)
theorem Calls.gr_of {P : Program} {f : FuncId} {args : Array Value} {w : World} {p : Gr w} {v : Value} (h : Below w.heap.size w p.W → Calls P f args p.W fun e w' => e = .returned v ∧ Below p.W.heap.size p.W w') :
  Calls P f args p.W fun e w'' => e = .returned v ∧ ∃ p : Gr w, w'' = p.W :=
 (h p.h).mono fun _ w' ⟨he, hb⟩ => ⟨he, ⟨w', p.h.trans (hb.mono p.h.size)⟩, rfl⟩
end Go.Proofs.YtbakebdfmdepnaaGreatDoor
namespace Go.Proofs.YtbakebdfmdepnaaGreatDoor.K
open Go.RowKit
set_option maxRecDepth 20000
theorem get_eq (s : ByteArray) (k : Nat) (h : k < s.size) : s.data.toList[k]'(by rw [len_size]; exact h) = s[k] := rfl
set_option maxHeartbeats 1000000 in
theorem l1Gap_any (s : ByteArray) (a : Int) (w : World) (hs : s.size ≤ maxLen) (h0 : 0 ≤ a) (h1 : a ≤ s.size) :
  Calls Tryz.prog 76 #[.string s, .int .i64 a] w fun e w' => e = .returned (.int .i64 (a + gapN false (s.data.toList.drop a.toNat))) ∧ w' = w := by
 unfold maxLen at hs
 obtain ⟨n, rfl⟩ := Int.eq_ofNat_of_zero_le h0
 rw [Int.toNat_natCast]
 obtain ⟨T, hT⟩ : ∃ T : Nat, n + gapN false (s.data.toList.drop n) = T := ⟨_, rfl⟩
 have e : ((n : Int) + (gapN false (s.data.toList.drop n) : Nat)) = (T : Int) := by omega
 rw [e]; clear e
 have HT : Hid (n + gapN false (s.data.toList.drop n) = T) := hT
 clear hT
 have hn : n ≤ s.size := by omega
 clear h0 h1
 have hsz := len_size s
 have HSZ : Hid (s.data.toList.length = s.size) := hsz
 clear hsz
 go_enter Tryz.func76, Tryz.ntmps76
 go_wp2
 go_loop [1] (fun i => ∃ k : Nat, k ≤ s.size ∧ i = .int .i64 k ∧ k + gapN false (s.data.toList.drop k) = T) (fun i => s.size - (intOf i).toNat)
 case atStart => exact ⟨n, hn, rfl, HT.out⟩
 case round =>
  obtain ⟨k, hk, rfl, hr⟩ := hrel
  have HR : Hid (k + gapN false (s.data.toList.drop k) = T) := hr
  clear hr
  by_cases hlt : k < s.size
  ·have hl : k < s.data.toList.length := by rw [HSZ.out]; exact hlt
   by_cases c1 : s[k].toNat = 35
   ·have c1' : ((s[k].toNat : Int) == 35) = true := by rw [beq_iff_eq]; omega
    have HG : Hid (k + gapN true (s.data.toList.drop k) = T) := by
     show _ = _; rw [← gf_note _ k hl (by rw [get_eq s k hlt]; exact c1)]; exact HR.out
    have C1 : Hid (s[k].toNat = 35) := c1
    clear c1
    go_wp2
    go_loop [1] (fun i => ∃ m : Nat, k ≤ m ∧ m ≤ s.size ∧ i = .int .i64 m ∧ m + gapN true (s.data.toList.drop m) = T) (fun i => s.size - (intOf i).toNat)
    case atStart => exact ⟨k, Nat.le_refl _, hk, rfl, HG.out⟩
    case round =>
     obtain ⟨m, hkm, hm, rfl, hr2⟩ := hrel
     have HR2 : Hid (m + gapN true (s.data.toList.drop m) = T) := hr2
     clear hr2
     by_cases hml : m < s.size
     ·have hl2 : m < s.data.toList.length := by rw [HSZ.out]; exact hml
      by_cases c2 : s[m].toNat = 10
      ·have c2' : ((s[m].toNat : Int) != 10) = false := by simp; omega
       have hne : k < m := by
        rcases Nat.lt_or_eq_of_le hkm with h | h
        ·exact h
        ·subst h; have := C1.out; omega
       have HX : Hid (m + gapN false (s.data.toList.drop m) = T) := by
        show _ = _; rw [← gt_nl _ m hl2 (by rw [get_eq s m hml]; exact c2)]; exact HR2.out
       clear c2
       go_wp2
       go_round
       case rel => exact ⟨m, hm, rfl, HX.out⟩
       case measure => simp [intOf]; omega
      ·have c2' : ((s[m].toNat : Int) != 10) = true := by simp; omega
       have HX : Hid (m + 1 + gapN true (s.data.toList.drop (m + 1)) = T) := by
        have := gt_step _ m hl2 (by rw [get_eq s m hml]; exact c2)
        have h2 := HR2.out
        show _ = _; omega
       clear c2
       go_wp2
       go_round
       case rel => exact ⟨m + 1, by omega, by omega, by go_num, HX.out⟩
       case measure => simp [intOf]; omega
     ·have HX : Hid (m + gapN false (s.data.toList.drop m) = T) := by
       have := g_end true s.data.toList m (by rw [HSZ.out]; omega)
       have h3 := g_end false s.data.toList m (by rw [HSZ.out]; omega)
       have h2 := HR2.out
       show _ = _; omega
      go_wp2
      go_round
      case rel => exact ⟨m, hm, rfl, HX.out⟩
      case measure => simp [intOf]; omega
   ·have c1' : ((s[k].toNat : Int) == 35) = false := by rw [beq_eq_false_iff_ne]; omega
    by_cases c3 : s[k].toNat = 32 ∨ s[k].toNat = 10
    ·have HX : Hid (k + 1 + gapN false (s.data.toList.drop (k + 1)) = T) := by
      have := gf_blank _ k hl (by rw [get_eq s k hlt]; exact c3)
      have h2 := HR.out
      show _ = _; omega
     clear c1
     by_cases c4 : s[k].toNat = 32
     ·have c4' : ((s[k].toNat : Int) == 32) = true := by rw [beq_iff_eq]; omega
      clear c3 c4
      go_wp2
      go_round
      case rel => exact ⟨k + 1, by omega, by go_num, HX.out⟩
      case measure => simp [intOf]; omega
     ·have c4' : ((s[k].toNat : Int) == 32) = false := by rw [beq_eq_false_iff_ne]; omega
      have c5' : ((s[k].toNat : Int) == 10) = true := by rw [beq_iff_eq]; omega
      clear c3 c4
      go_wp2
      go_round
      case rel => exact ⟨k + 1, by omega, by go_num, HX.out⟩
      case measure => simp [intOf]; omega
    ·have c4' : ((s[k].toNat : Int) == 32) = false := by rw [beq_eq_false_iff_ne]; omega
     have c5' : ((s[k].toNat : Int) == 10) = false := by rw [beq_eq_false_iff_ne]; omega
     have HX : Hid (k = T) := by
      have := gf_stop _ k hl (by rw [get_eq s k hlt]; exact c1) (by rw [get_eq s k hlt]; omega) (by rw [get_eq s k hlt]; omega)
      have h2 := HR.out
      show _ = _; omega
     clear c1 c3
     go_wp2
     go_ret
     exact ⟨ret_int (by rw [HX.out]), rfl⟩
  ·have HX : Hid (k = T) := by
    have := g_end false s.data.toList k (by rw [HSZ.out]; omega)
    have h2 := HR.out
    show _ = _; omega
   go_wp2
   go_ret
   exact ⟨ret_int (by rw [HX.out]), rfl⟩
end Go.Proofs.YtbakebdfmdepnaaGreatDoor.K
namespace Go.Proofs.YtbakebdfmdepnaaGreatDoor
open Go.RowKit
set_option maxRecDepth 20000
def KInv (nd : Nat → Nd) (B : Nat) (W0 W : World) (j : Nat) (L : List (Nat × Nat × List Nat)) (s : List Nat) (go co gs cs : Nat) : Prop :=
 kidsF nd j = some (L.map (·.2.2), s) ∧ RowAt W 30 go co L.length (gridRow L) ∧ RowAt W 3 gs cs s.length (intRow s) ∧ go ≠ gs ∧ B ≤ go ∧ B ≤ gs ∧
 (∀ x ∈ L, B ≤ x.1 ∧ x.1 ≠ go ∧ x.1 ≠ gs ∧ RowAt W 3 x.1 x.2.1 x.2.2.length (intRow x.2.2)) ∧ Below B W0 W
theorem KInv_step {nd : Nat → Nd} {B : Nat} {W0 W w1 w2 w3 : World} {j k : Nat} {L : List (Nat × Nat × List Nat)} {sp sk : List Nat} {go co gs cs : Nat} (h : KInv nd B W0 W j L (sp ++ sk) go co gs cs) (hB : B ≤ W.heap.size)
  (hk : (nd j).kids = k) (hl : sk.length = k)
  {v1 v2 v3 : Value} {c1 : Array Value} {c2 : Array Value} {t1 t2 t3 : TypeId}
  (o1 : w1.ownsRow B 3 1 v1 k (intRow sk)) (g1 : (W.alloc (.cells #[] t1)).grownBy w1 (some W.heap.size)) (n1 : ¬ v1 = .slice none 0 0) (b1 : v1.ownBlock = some W.heap.size ∨ v1.ownBlock = some (W.alloc (.cells #[] t1)).heap.size)
  (o2 : w2.ownsRow B 30 1 v2 (L.length + 1) (gridRow L ++ [v1])) (g2 : (w1.alloc (.cells c1 t2)).grownBy w2 (some go)) (n2 : ¬ v2 = .slice none 0 0) (b2 : v2.ownBlock = some go ∨ v2.ownBlock = some (w1.alloc (.cells c1 t2)).heap.size)
  (o3 : w3.ownsRow B 3 1 v3 (sp.length + 1) (intRow sp ++ [.int .i64 j])) (g3 : (w2.alloc (.cells c2 t3)).grownBy w3 (some gs)) (n3 : ¬ v3 = .slice none 0 0) (b3 : v3.ownBlock = some gs ∨ v3.ownBlock = some (w2.alloc (.cells c2 t3)).heap.size) :
  ∃ L' s' go' co' gs' cs', v2 = .slice (some ⟨go', 0, none⟩) L'.length co' ∧ v3 = .slice (some ⟨gs', 0, none⟩) s'.length cs' ∧ KInv nd B W0 w3 (j + 1) L' s' go' co' gs' cs' := by
 obtain ⟨h1, h2, h3, h4, h5, h6, h7, h8⟩ := h
 obtain ⟨r1, d1, rfl, rb1, rr1⟩ := RowAt.of_own o1 n1
 obtain ⟨r2, d2, rfl, rb2, rr2⟩ := RowAt.of_own o2 n2
 obtain ⟨r3, d3, rfl, rb3, rr3⟩ := RowAt.of_own o3 n3
 have z2 := h2.lt
 have z3 := h3.lt
 have s1 := g1.size
 have s2 := g2.size
 have s3 := g3.size
 simp only [World.size_alloc] at s1 s2 s3 b1 b2 b3
 simp only [Value.ownBlock, Option.some.injEq] at b1 b2 b3
 have hr1 : W.heap.size ≤ r1 := by omega
 have hr1' : r1 < w1.heap.size := rr1.lt
 have hr2 : r2 = go ∨ w1.heap.size < r2 := by omega
 have hr2' : r2 < w2.heap.size := rr2.lt
 have hr3 : r3 = gs ∨ w2.heap.size < r3 := by omega
 refine ⟨L ++ [(r1, d1, sk)], sp ++ [j], r2, d2, r3, d3, by simp, by simp, ?_, ?_, ?_, by omega, rb2, rb3, ?_, ?_⟩
 ·rw [List.map_append]; exact kidsF_good h1 hk hl
 ·have e : gridRow (L ++ [(r1, d1, sk)]) = gridRow L ++ [.slice (some ⟨r1, 0, none⟩) k d1] := by simp [gridRow, hl]
  rw [e, List.length_append]
  exact (rr2.alloc _).grown g3 (by intro e; injection e with e; omega)
 ·have e : intRow (sp ++ [j]) = intRow sp ++ [.int .i64 j] := by simp [intRow]
  rw [e, List.length_append]
  exact rr3
 ·intro x hx
  rcases List.mem_append.1 hx with hx | hx
  ·obtain ⟨x1, x2, x3, x4⟩ := h7 x hx
   have xl := x4.lt
   refine ⟨x1, by omega, by omega, ?_⟩
   exact ((((x4.alloc _).grown g1 (by intro e; injection e with e; omega)).alloc _).grown g2 (by intro e; injection e with e; omega)).alloc _ |>.grown g3 (by intro e; injection e with e; omega)
  ·simp only [List.mem_singleton] at hx
   subst hx
   refine ⟨rb1, by show r1 ≠ r2; omega, by show r1 ≠ r3; omega, ?_⟩
   have rr : RowAt w1 3 r1 d1 sk.length (intRow sk) := by rw [hl]; simpa using rr1
   exact ((rr.alloc _).grown g2 (by intro e; injection e with e; omega)).alloc _ |>.grown g3 (by intro e; injection e with e; omega)
 ·have a1 := (h8.alloc hB (.cells #[] t1)).grown g1 (by simp; omega) (fun k e => by injection e with e; omega)
  have a2 := (a1.alloc (by omega) (.cells c1 t2)).grown g2 (by simp; omega) (fun k e => by injection e with e; omega)
  exact (a2.alloc (by omega) (.cells c2 t3)).grown g3 (by simp; omega) (fun k e => by injection e with e; omega)
set_option maxHeartbeats 8000000 in
theorem UF_C (k : Int) (hk : k = 5 ∨ k = 11 ∨ k = 14 ∨ k = 16 ∨ k = 18 ∨ k = 19 ∨ k = 20 ∨ k = 21) : UF k := by
 intro op n kids t r w ht hr
 have hrl : r < w.heap.size := (Array.getElem?_eq_some_iff.1 hr).1
 have HR : Hid (∀ W, Below w.heap.size w W → W.heap[r]? = some (.map (wordE 17) 17)) := fun W hb => (hb.block r hrl).trans hr
 clear hr hrl
 unfold ndV
 rcases hk with rfl | rfl | rfl | rfl | rfl | rfl | rfl | rfl
 all_goals go_enter Tryz.func36, Tryz.ntmps36
 all_goals go_wp2_with (go_at_call 59; refine (isName_at t r _ ht (HR.out _ (below_two w _ _))).mono ?_; rintro e w1 ⟨hs, hb⟩; obtain ⟨⟨k0, k1, k2, k3, k4⟩, ⟨k5, k6, k7, k8, k9⟩, hb⟩ := two_rows hb; have HB := hid hb; clear hb; rcases hs.get with ⟨rfl, hP⟩ | ⟨rfl, hP⟩; all_goals (have HP := hid hP; clear hP hs))
 all_goals go_ret
 all_goals have hp := HP.out
 all_goals first
  | exact ⟨says_t (by simp [PlainNd, hasText, inR, *]), HB.out⟩
  | exact ⟨says_f (by simp [PlainNd, hasText, inR, *]), HB.out⟩
set_option maxHeartbeats 2000000 in
theorem UF_23 : UF 23 := by
 intro op n kids t r w ht hr
 clear hr
 unfold ndV
 go_enter Tryz.func36, Tryz.ntmps36
 go_wp2_with (go_at_call 60; refine (isPackage_any t _ ht).mono ?_; rintro e w1 ⟨hs, hb⟩; obtain ⟨⟨k0, k1, k2, k3, k4⟩, ⟨k5, k6, k7, k8, k9⟩, hb⟩ := two_rows hb; have HB := hid hb; clear hb; rcases hs.get with ⟨rfl, hP⟩ | ⟨rfl, hP⟩; all_goals (have HP := hid hP; clear hP hs))
 all_goals go_ret
 all_goals have hp := HP.out
 all_goals first
  | exact ⟨says_t (by simp [PlainNd, hasText, inR, *]), HB.out⟩
  | exact ⟨says_f (by simp [PlainNd, hasText, inR, *]), HB.out⟩
set_option maxHeartbeats 4000000 in
theorem UF_E (k : Int) (hk : k < 1 ∨ 24 < k) : UF k := by
 intro op n kids t r w ht hr
 clear ht hr
 unfold ndV
 have HE : Hid (¬ (PlainNd ⟨k, op, n, t, kids⟩ ∧ 1 ≤ k ∧ k ≤ 24)) := fun h => by have := h.2; omega
 have hn : ∀ x : Int, 1 ≤ x → x ≤ 24 → (k == x) = false := fun x h1 h2 => by rw [beq_eq_false_iff_ne]; omega
 have n1 := hn 1 (by decide) (by decide)
 have n2 := hn 2 (by decide) (by decide)
 have n3 := hn 3 (by decide) (by decide)
 have n4 := hn 4 (by decide) (by decide)
 have n5 := hn 5 (by decide) (by decide)
 have n6 := hn 6 (by decide) (by decide)
 have n7 := hn 7 (by decide) (by decide)
 have n8 := hn 8 (by decide) (by decide)
 have n9 := hn 9 (by decide) (by decide)
 have n10 := hn 10 (by decide) (by decide)
 have n11 := hn 11 (by decide) (by decide)
 have n12 := hn 12 (by decide) (by decide)
 have n13 := hn 13 (by decide) (by decide)
 have n14 := hn 14 (by decide) (by decide)
 have n15 := hn 15 (by decide) (by decide)
 have n16 := hn 16 (by decide) (by decide)
 have n17 := hn 17 (by decide) (by decide)
 have n18 := hn 18 (by decide) (by decide)
 have n19 := hn 19 (by decide) (by decide)
 have n20 := hn 20 (by decide) (by decide)
 have n21 := hn 21 (by decide) (by decide)
 have n22 := hn 22 (by decide) (by decide)
 have n23 := hn 23 (by decide) (by decide)
 have n24 := hn 24 (by decide) (by decide)
 clear hn hk
 go_enter Tryz.func36, Tryz.ntmps36
 go_wp2
 go_ret
 exact ⟨says_f HE.out, below_two _ _ _⟩
end Go.Proofs.YtbakebdfmdepnaaGreatDoor
namespace Go.Proofs.YtbakebdfmdepnaaGreatDoor
open Go.RowKit Go.Maps Go.WideMaps
set_option maxRecDepth 20000
def builts : List (List UInt8) := [[108, 101, 110], [116, 101, 120, 116], [105, 110, 116], [114, 97, 110, 103, 101], [115, 111, 114, 116, 101, 100], [117, 110, 105, 113, 117, 101], [106, 111, 105, 110], [115, 112, 108, 105, 116], [107, 101, 121, 115], [114, 101, 99, 111, 114, 100], [119, 105, 116, 104, 111, 117, 116], [98, 101, 103, 105, 110, 115], [99, 117, 116], [102, 105, 108, 101, 115], [102, 97, 105, 108]]
def builtS (i : Nat) : ByteArray := ⟨(builts.getD i []).toArray⟩
def builtArr : Array Value := (builts.map fun z => Value.string ⟨z.toArray⟩).toArray
def BEnv (w : World) : Prop := ∃ t fr, w.heap[0]? = some (.cells builtArr t fr)
theorem BEnv.below {B : Nat} {w w' : World} (h : BEnv w) (hb : Below B w w') (hB : 0 < B) : BEnv w' := by
 obtain ⟨t, fr, h⟩ := h
 exact ⟨t, fr, (hb.block 0 hB).trans h⟩
theorem BEnv.pos {w : World} (h : BEnv w) : 0 < w.heap.size := by
 obtain ⟨t, fr, h⟩ := h
 exact (Array.getElem?_eq_some_iff.1 h).1
def isBuilt (t : ByteArray) : Bool := decide (t.data.toList ∈ builts)
def builtEnv : Env := fun t => if isBuilt t = true then -2 else -1
theorem builtArr_get (k : Nat) (h : k < 15) : builtArr[k]? = some (.string (builtS k)) := by
 have hl : k < builts.length := h
 simp [builtArr, builtS, hl]
theorem index_builts (k : Nat) (h : k < 15) (W : World) : (Instr.index 87 (.agg builtArr) (.int .i64 k)).run Tryz.prog W = .ok (.string (builtS k)) W := by
 have hg := builtArr_get k h
 have hz := Tryz.sizeOf9 W
 simp [Instr.index, asIntOf, run_underlying Tryz.underlying87, h, hz, part, hg]
theorem builtS_size (k : Nat) : (builtS k).size ≤ maxLen := by
 have : ∀ l ∈ builts, l.length ≤ 10 := by decide
 have h2 : (builtS k).size = (builts.getD k []).length := by simp [builtS, ByteArray.size]
 rw [h2, List.getD_eq_getElem?_getD]
 unfold maxLen
 cases h : builts[k]? with
 | none => simp
 | some l => have := this l (List.mem_of_getElem? h); simp; omega
theorem mem_builts (t : ByteArray) : isBuilt t = true ↔ ∃ i, i < 15 ∧ builtS i = t := by
 unfold isBuilt
 rw [decide_eq_true_iff]
 constructor
 ·intro h
  obtain ⟨i, hl, e⟩ := List.getElem_of_mem h
  exact ⟨i, hl, by simp [builtS, hl, e]⟩
 ·rintro ⟨i, h, rfl⟩
  have hl : i < builts.length := h
  simp [builtS, hl]
def BF (k : Nat) (f : ByteArray → Option Int) : Prop := ∀ t, f t = if ∃ i, i < k ∧ builtS i = t then some (-2) else none
theorem BF_succ {k : Nat} {f : ByteArray → Option Int} (h : BF k f) : BF (k + 1) (setF f (builtS k) (-2)) := by
 intro t
 unfold setF
 by_cases e : t = builtS k
 ·rw [if_pos e, if_pos ⟨k, by omega, e.symm⟩]
 ·rw [if_neg e, h t]
  by_cases e2 : ∃ i, i < k ∧ builtS i = t
  ·obtain ⟨i, h1, h2⟩ := e2
   rw [if_pos ⟨i, h1, h2⟩, if_pos ⟨i, by omega, h2⟩]
  ·rw [if_neg e2, if_neg]
   rintro ⟨i, h1, h2⟩
   rcases Nat.lt_or_eq_of_le (Nat.lt_succ_iff.1 h1) with h | h
   ·exact e2 ⟨i, h, h2⟩
   ·subst h; exact e h2.symm
set_option maxHeartbeats 1000000 in
theorem builtScope_any (S : Nat → Prop) (w : World) (hS : ∀ j, S j → j < w.heap.size) (hE : BEnv w) :
  Calls Tryz.prog 22 #[] w fun e w' => ∃ b, e = .returned (.pointer (some ⟨b, 0, none⟩)) ∧ Kn S w' (.pointer (some ⟨b, 0, none⟩)) builtEnv ∧ Below w.heap.size w w' := by
 have HSS := hid hS
 have hpos := hE.pos
 have HE := hid hE
 have hmm := @run_makeMap Tryz.prog
 clear hS hE
 have HB2 : Hid (Below w.heap.size w ((w.alloc (.map #[] 0)).alloc (.cells #[.map (some w.heap.size), .pointer none] 86))) := ((Below.refl _ _).alloc (Nat.le_refl _) _).alloc (by simp) _
 have HT0 : Hid (Top ((w.alloc (.map #[] 0)).alloc (.cells #[.map (some w.heap.size), .pointer none] 86)) (w.heap.size + 1) w.heap.size 0 (fun _ => none) (.pointer none)) := by
  refine ⟨?_, ?_, ?_, by simp, by omega⟩
  ·rw [cell_push]; rfl
  ·rw [cell_push]; rfl
  ·exact (MapIs.made w).keep (Below.heap_alloc _ _ _ (by simp))
 obtain ⟨t, fr, hg⟩ := HE.out.below HB2.out hpos
 have HG := hid hg
 clear hg
 go_enter Tryz.func22, Tryz.ntmps22
 go_wp2_with (refine wpList_load_row rfl 87 (.global 0) rfl 0 rfl t builtArr fr (.array 15 9) HG.out Tryz.underlying87 rfl (by kernel_rfl) ?_)
 go_loopw [8] (fun i wr => ∃ (k : Nat) (f : ByteArray → Option Int), k ≤ 15 ∧ i = .int .i64 k ∧ BF k f ∧ Top wr (w.heap.size + 1) w.heap.size k f (.pointer none) ∧ Below w.heap.size w wr) (fun i _ => 15 - (intOf i).toNat)
 case atStart => exact ⟨0, fun _ => none, Nat.zero_le _, rfl, fun t => by rw [if_neg (fun ⟨i, h, _⟩ => absurd h (Nat.not_lt_zero _))], HT0.out, HB2.out⟩
 case round =>
  obtain ⟨k, f, hk, rfl, hbf, htop, hbw⟩ := hrel
  have HBF := hid hbf
  have HTOP := hid htop
  have HBW := hid hbw
  clear hbf htop hbw
  by_cases hlt : k < 15
  ·have hidx := index_builts k hlt
   have t0 := HTOP.out.made
   obtain ⟨w2, hrun, hmap, hgr⟩ := HTOP.out.map.put (by unfold maxLen; omega) (builtS k) (builtS_size k) (-2) (by decide)
   have HT2 := hid (top_put HTOP.out hgr hmap (Sv.of_below (S := S) HBW.out) (Nat.le_refl _))
   have HB2' := hid (HBW.out.grown hgr HBW.out.size (fun q e => by injection e with e; omega))
   clear hmap hgr
   go_wp2
   go_roundw
   case rel => exact ⟨k + 1, _, by omega, by go_num, BF_succ HBF.out, HT2.out.1, HB2'.out⟩
   case measure => simp [intOf]; omega
  ·obtain rfl : k = 15 := by omega
   go_wp2
   go_ret
   refine ⟨w.heap.size + 1, rfl, ?_, HBW.out⟩
   have hk0 : Kn S w (.pointer none) (fun _ => -1) := fun W _ => .nil _
   have := hk0.top (Sv.of_below HBW.out) HTOP.out (fun h => by have := HSS.out _ h; omega) (fun h => by have := HSS.out _ h; omega) (by omega)
   have e : (fun t => (f t).getD (-1)) = builtEnv := by
    funext t
    rw [HBF.out t]
    unfold builtEnv
    by_cases h : ∃ i, i < 15 ∧ builtS i = t
    ·rw [if_pos h, if_pos ((mem_builts t).2 h)]; rfl
    ·rw [if_neg h, if_neg (fun h2 => h ((mem_builts t).1 h2))]; rfl
   rw [e] at this
   exact this
def addF (f : ByteArray → Option Int) (s : ByteArray) (v : Int) : ByteArray → Option Int := fun t => (f t).or (if t = s then some v else none)
theorem add_some {f : ByteArray → Option Int} {s : ByteArray} (h : (f s).isSome = true) (v : Int) : addF f s v = f := by
 funext t
 unfold addF
 by_cases e : t = s
 ·subst e
  obtain ⟨u, hu⟩ := Option.isSome_iff_exists.1 h
  rw [hu]; rfl
 ·rw [if_neg e]; simp
theorem add_noneC {f : ByteArray → Option Int} {s : ByteArray} (h : (f s).isSome = false) (v : Int) : addF f s v = setF f s v := by
 funext t
 unfold addF setF
 by_cases e : t = s
 ·subst e
  have : f t = none := by simpa using h
  rw [this]; rfl
 ·rw [if_neg e, if_neg e]; simp
theorem top_put1 {W W' : World} {b m n : Nat} {f g : ByteArray → Option Int} {v : Value} (ht : Top W b m n f v) (hg : W.grownBy W' (some m)) (hm : MapIs W' m (n + 1) g) : Top W' b m (n + 1) g v :=
 ⟨hg.cell ht.made (fun e => ht.ne (by injection e with e; exact e.symm)), hg.cell ht.around (fun e => ht.ne (by injection e with e; exact e.symm)), hm, Nat.lt_of_lt_of_le ht.lt hg.size, ht.ne⟩
theorem grown_refl (w : World) (m : Nat) : w.grownBy w (some m) := ⟨rfl, rfl, rfl, Nat.le_refl _, fun _ _ _ => rfl⟩
theorem Top.more {W : World} {b m n : Nat} {f : ByteArray → Option Int} {v : Value} (h : Top W b m n f v) : Top W b m (n + 1) f v := by
 obtain ⟨D, h1, h2⟩ := h.map
 exact ⟨h.made, h.around, ⟨D, h1.mono (Nat.le_succ _), h2⟩, h.lt, h.ne⟩
set_option maxHeartbeats 1000000 in
theorem add_any (b m n : Nat) (f : ByteArray → Option Int) (v : Value) (s : ByteArray) (k : Nat) (w : World) (hs : s.size ≤ maxLen) (hk : k ≤ 5000) (hn : n < maxLen) (ht : Top w b m n f v) :
  Calls Tryz.prog 69 #[.pointer (some ⟨b, 0, none⟩), .string s, .int .i64 k] w fun e w' => e = .returned (.tuple #[]) ∧ Top w' b m (n + 1) (addF f s k) v ∧ w.grownBy w' (some m) := by
 have t0 := ht.made
 have hget := ht.map.get s hs
 obtain ⟨w2, hrun, hmap, hgr⟩ := ht.map.put hn s hs k (wf_nat k hk)
 have HT2 := hid (top_put1 ht hgr hmap)
 have HG := hid hgr
 have HT := hid ht
 clear ht hmap hgr
 go_enter Tryz.func69, Tryz.ntmps69
 cases hf : (f s).isSome
 ·rw [hf] at hget
  have e := add_noneC hf k
  clear hf
  go_wp2
  go_end0
  rw [e]
  exact ⟨rfl, HT2.out, HG.out⟩
 ·rw [hf] at hget
  have e := add_some hf k
  clear hf
  go_wp2
  go_end0
  rw [e]
  exact ⟨rfl, HT.out.more, grown_refl _ _⟩
end Go.Proofs.YtbakebdfmdepnaaGreatDoor
namespace Go.Proofs.YtbakebdfmdepnaaGreatDoor
open Go.RowKit Go.Maps Go.WideMaps
set_option maxRecDepth 20000
theorem BnAt.cell {W : World} {gb N : Nat} {bn : Nat → Int} (h : BnAt W gb N bn) (k : Nat) (hk : k < N) : W.cell? ⟨gb, k, none⟩ = some (.int .i64 (bn k)) ∧ W.frozen? ⟨gb, k, none⟩ = false := by
 obtain ⟨cur, h1, h2, h3⟩ := h
 constructor
 ·unfold World.cell?; rw [h1]; exact h3 k hk
 ·unfold World.frozen?; rw [h1]; simp
theorem BnAt.set {W : World} {gb N : Nat} {bn : Nat → Int} (h : BnAt W gb N bn) (k : Nat) (hk : k < N) (v : Int) : BnAt (W.setCell ⟨gb, k, none⟩ (.int .i64 v)) gb N (fun j => if j = k then v else bn j) := by
 obtain ⟨cur, h1, h2, h3⟩ := h
 refine ⟨_, set_atC _ h1, by simp [h2], fun i hi => ?_⟩
 by_cases e : i = k
 ·subst e
  rw [Array.getElem?_setIfInBounds_self_of_lt (by omega)]; simp
 ·rw [Array.getElem?_setIfInBounds_ne (fun e2 => e e2.symm)]
  simp only [if_neg e]
  exact h3 i hi
theorem Bx.At.set {x : Bx} {W : World} {bn : Nat → Int} {c a : Int} (h : x.At W bn c a) (hne : x.bb ≠ x.gb) (k : Nat) (hk : k < x.N) (v : Int) : x.At (W.setCell ⟨x.gb, k, none⟩ (.int .i64 v)) (fun j => if j = k then v else bn j) c a :=
 ⟨(Below.heap_setCell _ _ _ _ (fun e => hne e)).trans h.1, h.2.set k hk v⟩
def KG (W : World) (gk N : Nat) (o : List (List Nat)) : Prop := ∀ i, i < N → ∃ ad c, W.cell? ⟨gk, i, none⟩ = some (.slice ad (o.getD i []).length c) ∧ (o.getD i []).length ≤ c ∧ c ≤ maxLen ∧
 (o.getD i [] = [] ∨ ∃ g, ad = some ⟨g, 0, none⟩ ∧ ∀ j, j < (o.getD i []).length → W.cell? ⟨g, j, none⟩ = some (.int .i64 ((o.getD i []).getD j 0 : Nat)))
def Bx.Tree (x : Bx) (W : World) : Prop := NodesAt W x.g x.N x.nd ∧ KG W x.gk x.N x.o
structure Bx.Ok (x : Bx) : Prop where
 ne : x.bb ≠ x.gb
 N : x.N ≤ 5000
 text : ∀ i, i < x.N → (x.nd i).text.size ≤ maxLen
 down : Down x.o
 kidded : ∀ k, k < x.N → Kidded x.nd x.o k
 len : x.o.length = x.N
 g : ¬ x.S x.g
 gk : ¬ x.S x.gk
 kids : ∀ k, (x.o.getD k []).length ≤ 5000
 place : ∀ k, ∀ j ∈ x.o.getD k [], j < x.N
 fit : ∀ k, k < x.N → FitAt x.nd x.o k
set_option maxHeartbeats 1000000 in
theorem uses_any (x : Bx) (hx : x.Ok) (k : Nat) (kn : Env) (a : Option Addr) (bn : Nat → Int) (p : Int × Int) (w : World) (h : x.At w bn p.1 p.2) (ht : x.Tree w) (hk : Kn x.S w (.pointer a) kn) (hkN : k < x.N) :
  Calls Tryz.prog 39 #[.pointer (some ⟨x.bb, 0, none⟩), .int .i64 k, .pointer a] w fun e w' => e = .returned (.tuple #[]) ∧ x.Ends w w' bn p (useE x.nd kn k) := by
 obtain ⟨f0, f1, f2, f3, f4, f5, f6⟩ := h.five
 obtain ⟨c0, c1, c2, c3, c4⟩ := ht.1 k hkN
 obtain ⟨b0, b1⟩ := h.2.cell k hkN
 have H := hid h
 have HX := hid hx
 have HT := hid (hx.text k hkN)
 have HN5 := hx.N
 have HK := hid hk
 clear h hk ht hx
 go_enter Tryz.func39, Tryz.ntmps39
 go_wp2_with fail
 go_region_with (go_at_call 66; refine (maker_any _ _ kn _ _ HT.out (HK.out _ (by repeat (first | exact Sv.refl _ _ | apply Sv.drew)))).mono ?_; rintro e w' ⟨rfl, hw⟩; have hw2 := hw.symm; clear hw; subst hw2)
 all_goals
  have HA : Hid (x.At (w.setCell ⟨x.gb, k, none⟩ (.int .i64 (kn (x.nd k).text))).drew (fun j => if j = k then kn (x.nd k).text else bn j) p.1 p.2) := H.out.set HX.out.ne k hkN _
  have HS1 : Hid (Sv x.S w (w.setCell ⟨x.gb, k, none⟩ (.int .i64 (kn (x.nd k).text))).drew) := ((Sv.refl _ _).setCell (p := ⟨x.gb, k, none⟩) (.inl (.inr rfl)) _).drew
  generalize (w.setCell ⟨x.gb, k, none⟩ (.int .i64 (kn (x.nd k).text))).drew = w1 at *
  clear f0 f1 f2 f3 f4 f5 f6 b0 b1 c0 c1 c2 c3 c4
  obtain ⟨f0, f1, f2, f3, f4, f5, f6⟩ := HA.out.five
  obtain ⟨b0, b1⟩ := HA.out.2.cell k hkN
  simp only [if_true] at b0
  by_cases hm : kn (x.nd k).text = -1
  ·have HM := hid hm
   rw [hm] at b0
   clear hm
   go_wp2_with (first
    | (go_at_call 67; refine (finds_any x 9 k _ p _ HA.out HX.out.ne).mono ?_; rintro e w' ⟨rfl, hw⟩))
   go_end0
   obtain ⟨hs, bn', ha, _⟩ := hw
   have e : useE x.nd kn k = [.bind k (kn (x.nd k).text), .flt k 9] := by unfold useE; rw [if_pos HM.out]
   rw [e]
   exact ⟨rfl, HS1.out.trans hs, bn', ha, fun h => by cases h⟩
  ·have HM := hid hm
   have hq : (kn (x.nd k).text == -1) = false := by rw [beq_eq_false_iff_ne]; exact hm
   clear hm
   go_wp2
   go_end0
   have e : useE x.nd kn k = [.bind k (kn (x.nd k).text)] := by unfold useE; rw [if_neg HM.out]
   rw [e]
   exact ⟨rfl, HS1.out, _, HA.out, fun _ => rfl⟩
end Go.Proofs.YtbakebdfmdepnaaGreatDoor
