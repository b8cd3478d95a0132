import Derived.Test.YtbakebdfmdepnaaGreatDoorChecked
import Derived.WalkKit
import Derived.WalkSpells
import Derived.WalkLawsBesides
import Derived.Deep.QuietTactic
import Derived.BigQuiet
import Derived.Test.YtbakebdfmdepnaaGreatDoorJ00
import Derived.Test.YtbakebdfmdepnaaGreatDoorJ02
import Derived.Test.YtbakebdfmdepnaaGreatDoorJ04
import Derived.Test.YtbakebdfmdepnaaGreatDoorJ05
namespace Go.Proofs.YtbakebdfmdepnaaGreatDoor.K
open Go.RowKit
theorem ret_bool {a b : Bool} (h : a = b) : Ending.returned (.bool a) = .returned (.bool b) := by rw [h]
theorem ret_int {k : IntKind} {a b : Int} (h : a = b) : Ending.returned (.int k a) = .returned (.int k b) := by rw [h]
set_option maxHeartbeats 400000 in
theorem isDigit_any (c : Int) (w : World) :
  Calls Tryz.prog 88 #[.int .u8 c] w fun e w' => e = .returned (.bool (dig c)) ∧ w' = w := by
 go_enter Tryz.func88, Tryz.ntmps88
 go_wp2
 all_goals go_ret
 all_goals exact ⟨ret_bool (by unfold dig; rw [Bool.eq_iff_iff]; simp; try omega), rfl⟩
set_option maxHeartbeats 400000 in
theorem l1Digit_any (c : Int) (w : World) :
  Calls Tryz.prog 70 #[.int .u8 c] w fun e w' => e = .returned (.bool (dig c)) ∧ w' = w := by
 go_enter Tryz.func70, Tryz.ntmps70
 go_wp2
 all_goals go_ret
 all_goals exact ⟨ret_bool (by unfold dig; rw [Bool.eq_iff_iff]; simp; try omega), rfl⟩
set_option maxHeartbeats 400000 in
theorem l1Begins_any (c : Int) (w : World) :
  Calls Tryz.prog 71 #[.int .u8 c] w fun e w' => e = .returned (.bool (beg c)) ∧ w' = w := by
 go_enter Tryz.func71, Tryz.ntmps71
 go_wp2
 all_goals go_ret
 all_goals exact ⟨ret_bool (by unfold beg; rw [Bool.eq_iff_iff]; simp; try omega), rfl⟩
set_option maxHeartbeats 400000 in
theorem l1Letter_any (c : Int) (w : World) :
  Calls Tryz.prog 74 #[.int .u8 c] w fun e w' => e = .returned (.bool (let_ c)) ∧ w' = w := by
 cases hb : beg c <;> cases hd : dig c
 all_goals go_enter Tryz.func74, Tryz.ntmps74
 all_goals go_wp2_with (first
  | (go_at_call 71; refine (l1Begins_any _ _).mono ?_; rintro e w' ⟨rfl, rfl⟩)
  | (go_at_call 70; refine (l1Digit_any _ _).mono ?_; rintro e w' ⟨rfl, rfl⟩))
 all_goals go_ret
 all_goals exact ⟨ret_bool (by simp [let_, hb, hd]), rfl⟩
set_option maxHeartbeats 400000 in
theorem isName_any (c : Int) (w : World) :
  Calls Tryz.prog 89 #[.int .u8 c] w fun e w' => e = .returned (.bool (let_ c)) ∧ w' = w := by
 go_enter Tryz.func89, Tryz.ntmps89
 go_wp2_with (first
  | (go_at_call 88; refine (isDigit_any _ _).mono ?_; rintro e w' ⟨rfl, rfl⟩))
 all_goals go_ret
 all_goals exact ⟨ret_bool (by unfold let_ beg; generalize dig c = d; cases d <;> rw [Bool.eq_iff_iff] <;> simp <;> try omega), rfl⟩
set_option maxHeartbeats 400000 in
theorem l1Hex_any (c : Int) (w : World) (h0 : 0 ≤ c) (h1 : c ≤ 255) :
  Calls Tryz.prog 104 #[.int .u8 c] w fun e w' => e = .returned (.int .i64 (hexv c)) ∧ w' = w := by
 go_enter Tryz.func104, Tryz.ntmps104
 go_wp2
 all_goals go_ret
 all_goals exact ⟨ret_int (by unfold hexv; split <;> (try split) <;> omega), rfl⟩
set_option maxHeartbeats 400000 in
theorem nameSize_any (s : ByteArray) (w : World) (hs : s.size ≤ maxLen) :
  Calls Tryz.prog 87 #[.string s] w fun e w' => e = .returned (.int .i64 (run letB s.data.toList)) ∧ w' = w := by
 unfold maxLen at hs
 go_enter Tryz.func87, Tryz.ntmps87
 go_wp2
 go_loop [3] (fun i => ∃ k : Nat, k ≤ s.size ∧ i = .int .i64 k ∧ k ≤ run letB s.data.toList) (fun i => s.size - (intOf i).toNat)
 case atStart => exact ⟨0, Nat.zero_le _, rfl, Nat.zero_le _⟩
 case round =>
  obtain ⟨k, hk, rfl, hr⟩ := hrel
  by_cases hlt : k < s.size
  ·have hl : k < s.data.toList.length := by simpa using hlt
   have hg : s.data.toList[k] = s[k] := rfl
   have HG : Hid (s.data.toList[k] = s[k]) := hg
   clear hg
   cases hp : let_ (s[k].toNat : Int)
   ·have HE := run_stop letB _ k hr hl (by rw [HG.out]; exact hp)
    have HE' : Hid (run letB s.data.toList = k) := HE
    clear HE
    go_wp2_with (go_at_call 89; refine (isName_any _ _).mono ?_; rintro e w' ⟨rfl, rfl⟩)
    go_ret
    exact ⟨ret_int (by rw [HE'.out]), rfl⟩
   ·have HE := run_step letB _ k hr hl (by rw [HG.out]; exact hp)
    go_wp2_with (go_at_call 89; refine (isName_any _ _).mono ?_; rintro e w' ⟨rfl, rfl⟩)
    go_round
    case rel => exact ⟨k + 1, by omega, by go_num, HE⟩
    case measure => simp [intOf]; omega
  ·have HE : Hid (run letB s.data.toList = k) := by
    have := run_le letB s.data.toList
    have e : s.data.toList.length = s.size := by simp
    exact Nat.le_antisymm (by omega) hr
   go_wp2
   go_ret
   exact ⟨ret_int (by rw [HE.out]), rfl⟩
theorem byte_bd (c : UInt8) : 0 ≤ (c.toNat : Int) ∧ (c.toNat : Int) ≤ 255 := by have := c.toNat_lt; omega
end Go.Proofs.YtbakebdfmdepnaaGreatDoor.K
namespace Go.Proofs.YtbakebdfmdepnaaGreatDoor
open Go.RowKit
set_option maxRecDepth 20000
set_option maxHeartbeats 4000000 in
theorem KO_D (kind : Int) (hkind : kind = 18 ∨ kind = 19 ∨ kind = 21 ∨ kind = 22) : KO kind := by
 intro b N cap g o m c nd ks w hm hb hg hn hk
 have HN := hid hn
 have HK := hid hk
 clear hn hk
 go_enter Tryz.func26, Tryz.ntmps26
 go_wp2
 go_loopw [8, 10] (fun es i wr => ∃ j e : Nat, j ≤ m ∧ e ≤ j ∧ i = .int .i64 j ∧ es = .int .i64 e ∧ (e = j ↔ AllE j (fun i => nd (ks i))) ∧ Below (w.heap.size + 1) (w.alloc (.cells #[.slice (some ⟨b, 0, none⟩) N cap] 25)) wr) (fun _ i _ => m - (intOf i).toNat)
 case atStart => exact ⟨0, 0, Nat.zero_le _, Nat.zero_le _, rfl, rfl, ⟨fun _ i h => absurd h (Nat.not_lt_zero _), fun _ => rfl⟩, Below.refl _ _⟩
 case round =>
  obtain ⟨j, e, hj, he, rfl, rfl, hall, hbw⟩ := hrel
  have HALL := hid hall
  have HBW := hid hbw
  clear hall hbw
  by_cases hlt : j < m
  ·have t0 := tree_cell HBW.out
   obtain ⟨a0, a1⟩ := (HK.out.below (btree HBW.out) hg) j hlt
   obtain ⟨a2, _⟩ := (HN.out.below (btree HBW.out) hb) (ks j) a1
   have HS := hid (AllE_step HALL.out he)
   cases hE : isE (nd (ks j)).kind
   ·have NX := hid (HS.out.2 hE)
    clear HS
    go_wp2
    go_region_with (go_at_call 47; refine (l2E_any _ _).mono ?_; rintro e w' ⟨rfl, hw⟩; have hw2 := hw.symm; clear hw; subst hw2)
    all_goals go_wp2
    all_goals
     go_roundw
     case rel => exact ⟨j + 1, e, by omega, by omega, by go_num, rfl, NX.out, HBW.out.drew⟩
     case measure => simp [intOf]; omega
   ·have NX := hid (HS.out.1 hE)
    clear HS
    go_wp2
    go_region_with (go_at_call 47; refine (l2E_any _ _).mono ?_; rintro e w' ⟨rfl, hw⟩; have hw2 := hw.symm; clear hw; subst hw2)
    all_goals go_wp2
    all_goals
     go_roundw
     case rel => exact ⟨j + 1, e + 1, by omega, by omega, by go_num, by go_num, NX.out, HBW.out.drew⟩
     case measure => simp [intOf]; omega
  ·obtain rfl : j = m := by omega
   rcases hkind with rfl | rfl | rfl | rfl
   all_goals go_wp2
   all_goals go_ret
   all_goals refine ⟨⟨_, rfl, ?_⟩, btree HBW.out⟩
   all_goals simp [KidsOk, ← HALL.out, *]
   all_goals omega
def UF (k : Int) : Prop := ∀ (op n kids : Int) (t : ByteArray) (r : Nat) (w : World), t.size ≤ maxLen → w.heap[r]? = some (.map (wordE 17) 17) → Calls Tryz.prog 36 #[ndV ⟨k, op, n, t, kids⟩, .map (some r)] w fun e w' => Says e (PlainNd ⟨k, op, n, t, kids⟩ ∧ 1 ≤ k ∧ k ≤ 24) ∧ Below w.heap.size w w'
theorem below_two (w : World) (a b : Obj) : Below w.heap.size w ((w.alloc a).alloc b) := ((Below.refl _ _).alloc (Nat.le_refl _) a).alloc (by simp) b
theorem two_rows {w w1 : World} {a0 a1 a2 a3 a4 b0 b1 b2 b3 b4 : Value} {t u : TypeId} (h : Below ((w.alloc (.cells #[a0, a1, a2, a3, a4] t)).alloc (.cells #[b0, b1, b2, b3, b4] u)).heap.size ((w.alloc (.cells #[a0, a1, a2, a3, a4] t)).alloc (.cells #[b0, b1, b2, b3, b4] u)) w1) :
  (w1.cell? ⟨w.heap.size, 0, none⟩ = some a0 ∧ w1.cell? ⟨w.heap.size, 1, none⟩ = some a1 ∧ w1.cell? ⟨w.heap.size, 2, none⟩ = some a2 ∧ w1.cell? ⟨w.heap.size, 3, none⟩ = some a3 ∧ w1.cell? ⟨w.heap.size, 4, none⟩ = some a4) ∧
  (w1.cell? ⟨w.heap.size + 1, 0, none⟩ = some b0 ∧ w1.cell? ⟨w.heap.size + 1, 1, none⟩ = some b1 ∧ w1.cell? ⟨w.heap.size + 1, 2, none⟩ = some b2 ∧ w1.cell? ⟨w.heap.size + 1, 3, none⟩ = some b3 ∧ w1.cell? ⟨w.heap.size + 1, 4, none⟩ = some b4) ∧ Below w.heap.size w w1 := by
 have f : ∀ i, w1.cell? ⟨w.heap.size, i, none⟩ = #[a0, a1, a2, a3, a4][i]? := fun i => by
  rw [h.cell (p := ⟨w.heap.size, i, none⟩) (by simp; omega)]
  rw [((Below.refl (w.heap.size + 1) (w.alloc (.cells #[a0, a1, a2, a3, a4] t))).alloc (by simp) _).cell (p := ⟨w.heap.size, i, none⟩) (Nat.lt_succ_self _), cell_new_row]
 have g : ∀ i, w1.cell? ⟨w.heap.size + 1, i, none⟩ = #[b0, b1, b2, b3, b4][i]? := fun i => by
  rw [h.cell (p := ⟨w.heap.size + 1, i, none⟩) (by simp)]
  have := cell_new_row (w.alloc (.cells #[a0, a1, a2, a3, a4] t)) #[b0, b1, b2, b3, b4] u i
  rwa [World.size_alloc] at this
 exact ⟨⟨f 0, f 1, f 2, f 3, f 4⟩, ⟨g 0, g 1, g 2, g 3, g 4⟩, (below_two w _ _).trans (h.mono (by simp; omega))⟩
end Go.Proofs.YtbakebdfmdepnaaGreatDoor
namespace Go.Proofs.YtbakebdfmdepnaaGreatDoor
open Go.RowKit Go.Maps Go.WideMaps
set_option maxRecDepth 20000
def ptrOf : Value → Nat | .pointer (some a) => a.block + 1 | _ => 0
set_option maxHeartbeats 1000000 in
theorem maker_any (r : Nat) (v : Value) (kn : Env) (s : ByteArray) (w : World) (hs : s.size ≤ maxLen) (hk : Scp w r v kn) :
  Calls Tryz.prog 66 #[v, .string s] w fun e w' => e = .returned (.int .i64 (kn s)) ∧ w' = w := by
 have HK := hid hk
 clear hk
 go_enter Tryz.func66, Tryz.ntmps66
 go_wp2
 go_loopw [5] (fun u wr => ∃ (r' : Nat) (kn' : Env), Scp w r' u kn' ∧ kn' s = kn s ∧ wr = w) (fun u _ => ptrOf u)
 case atStart => exact ⟨r, kn, HK.out, rfl, rfl⟩
 case round =>
  obtain ⟨r', kn', hsc, he, rfl⟩ := hrel
  have HE := hid he
  clear he
  cases hsc with
  | nil =>
   go_wp2
   go_ret
   exact ⟨by rw [← HE.out]; rfl, rfl⟩
  | @cons _ b m n f next kn2 h1 h2 h3 h4 h5 =>
   have hget := h4.get s hs
   have HE : Hid ((f s).getD (kn2 s) = kn s) := HE
   have H5 := hid h5
   have H1 := hid h1
   clear h5 h4 h1
   cases hf : f s with
   | none =>
    rw [hf] at hget HE
    have HF := hid hf
    clear hf
    go_wp2
    go_roundw
    case rel => exact ⟨b, kn2, H5.out, HE.out, trivial⟩
    case measure =>
     have := H5.out
     cases this with
     | nil => simp [ptrOf]
     | cons q1 => simp [ptrOf]; omega
   | some u =>
    rw [hf] at hget HE
    have HF := hid hf
    clear hf
    go_wp2
    go_ret
    exact ⟨by rw [← HE.out]; rfl, rfl⟩
structure Top (W : World) (b m n : Nat) (f : ByteArray → Option Int) (v : Value) : Prop where
 made : W.cell? ⟨b, 0, none⟩ = some (.map (some m))
 around : W.cell? ⟨b, 1, none⟩ = some v
 map : MapIs W m n f
 lt : b < W.heap.size
 ne : m ≠ b
theorem Top.go {S : Nat → Prop} {W W' : World} {b m n : Nat} {f : ByteArray → Option Int} {v : Value} (h : Top W b m n f v) (hs : Sv S W W') (hb : ¬ S b) (hm : ¬ S m) : Top W' b m n f v :=
 ⟨(hs.cell (p := ⟨b, 0, none⟩) h.lt hb).trans h.made, (hs.cell (p := ⟨b, 1, none⟩) h.lt hb).trans h.around, h.map.keep (hs.block m h.map.lt hm), Nat.lt_of_lt_of_le h.lt hs.size, h.ne⟩
def Kn (S : Nat → Prop) (w : World) (v : Value) (kn : Env) : Prop := Stb S w fun W => Scp W w.heap.size v kn
theorem Kn.go {S : Nat → Prop} {w w' : World} {v : Value} {kn : Env} (h : Kn S w v kn) (hs : Sv S w w') : Kn S w' v kn := fun w'' h2 => (h w'' (hs.trans h2)).mono hs.size
theorem Kn.top {S : Nat → Prop} {w0 w : World} {b m n : Nat} {f : ByteArray → Option Int} {v : Value} {kn : Env} (h : Kn S w0 v kn) (hs : Sv S w0 w) (ht : Top w b m n f v) (hb : ¬ S b) (hm : ¬ S m) (h0 : w0.heap.size ≤ b) : Kn S w (.pointer (some ⟨b, 0, none⟩)) (fun t => (f t).getD (kn t)) := by
 intro w' h2
 have t := ht.go h2 hb hm
 exact .cons ht.lt t.made t.around t.map ((h w' (hs.trans h2)).mono h0)
theorem top_put {S : Nat → Prop} {w0 W W' : World} {b m n : Nat} {f g : ByteArray → Option Int} {v : Value} (ht : Top W b m n f v) (hg : W.grownBy W' (some m)) (hm : MapIs W' m (n + 1) g) (hs : Sv S w0 W) (h0 : w0.heap.size ≤ m) : Top W' b m (n + 1) g v ∧ Sv S w0 W' :=
 ⟨⟨hg.cell ht.made (fun e => ht.ne (by injection e with e; exact e.symm)), hg.cell ht.around (fun e => ht.ne (by injection e with e; exact e.symm)), hm, Nat.lt_of_lt_of_le ht.lt hg.size, ht.ne⟩,
  hs.grown hg fun k e => by injection e with e; subst e; exact .inr h0⟩
theorem cell_push (w : World) (o o2 : Obj) (i : Nat) : ((w.alloc o).alloc o2).cell? ⟨w.heap.size + 1, i, none⟩ = (match o2 with | .cells cs _ _ => cs[i]? | _ => none) := by
 have : ((w.alloc o).alloc o2).heap[w.heap.size + 1]? = some o2 := by
  have := heap_alloc_new (w.alloc o) o2
  rwa [World.size_alloc] at this
 unfold World.cell?
 rw [this]
 cases o2 <;> rfl
theorem inside_any (a : Option Addr) (w : World) :
  Calls Tryz.prog 68 #[.pointer a] w fun e w' => ∃ b m, e = .returned (.pointer (some ⟨b, 0, none⟩)) ∧ Top w' b m 0 (fun _ => none) (.pointer a) ∧ w.heap.size ≤ b ∧ w.heap.size ≤ m ∧ Below w.heap.size w w' := by
 have hmm := @run_makeMap Tryz.prog
 go_enter Tryz.func68, Tryz.ntmps68
 go_wp2
 go_ret
 refine ⟨w.heap.size + 1, w.heap.size, rfl, ⟨?_, ?_, ?_, by simp, by omega⟩, by omega, Nat.le_refl _, ((Below.refl _ _).alloc (Nat.le_refl _) _).alloc (by simp) _⟩
 ·rw [cell_push]; rfl
 ·rw [cell_push]; rfl
 ·exact (MapIs.made w).keep (Below.heap_alloc _ _ _ (by simp))
theorem wf_nat (k : Nat) (h : k ≤ 5000) : (Lit.int .i64 (k : Int)).wf = true := by
 have e : IntKind.i64.min = -9223372036854775808 := by decide
 simp [Lit.wf, e]
 omega
set_option maxHeartbeats 1000000 in
theorem with_any (S : Nat → Prop) (a : Option Addr) (kn : Env) (s : ByteArray) (k : Nat) (w : World) (hs : s.size ≤ maxLen) (hk5 : k ≤ 5000) (hS : ∀ j, S j → j < w.heap.size) (hk : Kn S w (.pointer a) kn) :
  Calls Tryz.prog 41 #[.pointer a, .string s, .int .i64 k] w fun e w' => ∃ b, e = .returned (.pointer (some ⟨b, 0, none⟩)) ∧ Kn S w' (.pointer (some ⟨b, 0, none⟩)) (kn.ext s k) ∧ Below w.heap.size w w' := by
 have HK := hid hk
 have HSS := hid hS
 clear hk hS
 go_enter Tryz.func41, Tryz.ntmps41
 go_wp2_with fail
 refine (inside_any a w).mono ?_
 rintro e w1 ⟨b, m, rfl, ht, hb, hm, hbw⟩
 have h0 := ht.made
 obtain ⟨w2, hrun, hmap, hg⟩ := ht.map.put (by unfold maxLen; omega) s hs k (wf_nat k hk5)
 have HT := hid (top_put ht hg hmap (Sv.of_below (S := S) hbw) hm)
 have HB := hid (hbw.grown hg hbw.size (fun q e => by injection e with e; omega))
 clear ht hmap hg hbw
 go_wp2
 go_ret
 refine ⟨b, rfl, ?_, HB.out⟩
 have := HK.out.top HT.out.2 HT.out.1 (fun h => by have := HSS.out b h; omega) (fun h => by have := HSS.out m h; omega) hb
 have e : (fun t => (setF (fun _ => none) s k t).getD (kn t)) = kn.ext s k := by
  funext t
  unfold setF Env.ext
  split <;> rfl
 rw [e] at this
 exact this
end Go.Proofs.YtbakebdfmdepnaaGreatDoor
namespace Go.Proofs.YtbakebdfmdepnaaGreatDoor
open Go.RowKit Go.Maps Go.WideMaps
set_option maxRecDepth 20000
structure Bx where
 bb : Nat
 gb : Nat
 g : Nat
 N : Nat
 cap : Nat
 gk : Nat
 nd : Nat → Nd
 o : List (List Nat)
def Bx.S (x : Bx) (k : Nat) : Prop := k = x.bb ∨ k = x.gb
def BnAt (W : World) (gb N : Nat) (bn : Nat → Int) : Prop := ∃ cur, W.heap[gb]? = some (.cells cur 3 (0, 0)) ∧ cur.size = N ∧ ∀ i, i < N → cur[i]? = some (.int .i64 (bn i))
def Bx.row (x : Bx) (c a : Int) : Array Value := #[.slice (some ⟨x.g, 0, none⟩) x.N x.cap, .slice (some ⟨x.gk, 0, none⟩) x.N x.N, .slice (some ⟨x.gb, 0, none⟩) x.N x.N, .int .i64 c, .int .i64 a]
def Bx.At (x : Bx) (W : World) (bn : Nat → Int) (c a : Int) : Prop := W.heap[x.bb]? = some (.cells (x.row c a) 50 (0, 0)) ∧ BnAt W x.gb x.N bn
theorem Bx.At.lt {x : Bx} {W : World} {bn : Nat → Int} {c a : Int} (h : x.At W bn c a) : ∀ j, x.S j → j < W.heap.size := by
 obtain ⟨h1, cur, h2, _⟩ := h
 rintro j (rfl | rfl)
 ·exact (Array.getElem?_eq_some_iff.1 h1).1
 ·exact (Array.getElem?_eq_some_iff.1 h2).1
theorem Bx.At.five {x : Bx} {W : World} {bn : Nat → Int} {c a : Int} (h : x.At W bn c a) :
  W.cell? ⟨x.bb, 0, none⟩ = some (.slice (some ⟨x.g, 0, none⟩) x.N x.cap) ∧ W.cell? ⟨x.bb, 1, none⟩ = some (.slice (some ⟨x.gk, 0, none⟩) x.N x.N) ∧ W.cell? ⟨x.bb, 2, none⟩ = some (.slice (some ⟨x.gb, 0, none⟩) x.N x.N) ∧ W.cell? ⟨x.bb, 3, none⟩ = some (.int .i64 c) ∧ W.cell? ⟨x.bb, 4, none⟩ = some (.int .i64 a) ∧
  W.frozen? ⟨x.bb, 3, none⟩ = false ∧ W.frozen? ⟨x.bb, 4, none⟩ = false := by
 have f : ∀ i, W.frozen? ⟨x.bb, i, none⟩ = false := fun i => by unfold World.frozen?; rw [h.1]; simp
 refine ⟨?_, ?_, ?_, ?_, ?_, f 3, f 4⟩ <;> (unfold World.cell?; rw [h.1]; rfl)
def ft : Int × Int → List (Nat × Nat) → Int × Int
 | p, [] => p
 | p, (k, d) :: r => ft (if p.1 = 0 then ((d : Int), (k : Int)) else p) r
theorem ft_append (p : Int × Int) (l r : List (Nat × Nat)) : ft p (l ++ r) = ft (ft p l) r := by
 induction l generalizing p with
 | nil => rfl
 | cons x l ih => exact ih _
def Bx.Ends (x : Bx) (w w' : World) (bn : Nat → Int) (p : Int × Int) (evs : List Ev) : Prop := Sv x.S w w' ∧ ∃ bn', x.At w' bn' (ft p (fls evs)).1 (ft p (fls evs)).2 ∧ (fls evs = [] → bn' = apB bn evs)
theorem Bx.Ends.nil {x : Bx} {w : World} {bn : Nat → Int} {p : Int × Int} (h : x.At w bn p.1 p.2) : x.Ends w w bn p [] := ⟨Sv.refl _ _, bn, h, fun _ => rfl⟩
theorem Bx.At.go {x : Bx} {W W' : World} {bn : Nat → Int} {c a : Int} (h : x.At W bn c a) (hb : Below W.heap.size W W') : x.At W' bn c a := by
 have hl := h.lt
 obtain ⟨h1, cur, h2, h3⟩ := h
 exact ⟨(hb.block _ (hl _ (.inl rfl))).trans h1, cur, (hb.block _ (hl _ (.inr rfl))).trans h2, h3⟩
set_option maxHeartbeats 1000000 in
theorem finds_any (x : Bx) (code at_ : Nat) (bn : Nat → Int) (p : Int × Int) (w : World) (h : x.At w bn p.1 p.2) (hne : x.bb ≠ x.gb) :
  Calls Tryz.prog 67 #[.pointer (some ⟨x.bb, 0, none⟩), .int .i64 code, .int .i64 at_] w fun e w' => e = .returned (.tuple #[]) ∧ x.Ends w w' bn p [.flt at_ code] := by
 obtain ⟨f0, f1, f2, f3, f4, f5, f6⟩ := h.five
 have H := hid h
 clear h
 by_cases hc : p.1 = 0
 ·have HC := hid hc
  rw [hc] at f3
  clear hc
  go_enter Tryz.func67, Tryz.ntmps67
  go_wp2
  go_end0
  refine ⟨rfl, ?_, bn, ?_, fun h => by cases h⟩
  ·exact ((Sv.refl x.S w).setCell (p := ⟨x.bb, 3, none⟩) (.inl (.inl rfl)) _).setCell (p := ⟨x.bb, 4, none⟩) (.inl (.inl rfl)) _
  ·obtain ⟨h1, cur, h2, h3⟩ := H.out
   refine ⟨?_, cur, ?_, h3⟩
   ·have := set_atC (.int .i64 (at_ : Int)) (i := 4) (set_atC (.int .i64 (code : Int)) (i := 3) h1)
    rw [this]
    simp [fls, ft, HC.out, Bx.row]
   ·rw [Below.heap_setCell _ _ _ _ (fun e => hne e.symm), Below.heap_setCell _ _ _ _ (fun e => hne e.symm)]
    exact h2
 ·have hq : (p.1 == 0) = false := by rw [beq_eq_false_iff_ne]; exact hc
  have HC := hid hc
  clear hc
  go_enter Tryz.func67, Tryz.ntmps67
  go_wp2
  go_end0
  refine ⟨rfl, Sv.refl _ _, bn, ?_, fun h => by cases h⟩
  have : ft p (fls [.flt at_ code]) = p := by simp only [fls, ft]; rw [if_neg HC.out]
  rw [this]
  exact H.out
end Go.Proofs.YtbakebdfmdepnaaGreatDoor
