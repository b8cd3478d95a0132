import Derived.Test.YtlgpbmnajlhaoaaChecked
import Derived.WalkKit
import Derived.WalkSpells
import Derived.WalkLawsBesides
import Derived.Deep.QuietTactic
import Derived.BigQuiet
import Derived.Lib.Bytealg
import Derived.Lib.Strings
import Derived.BigCall
import Derived.OwnWalk
/-! Names of packages, over both sides; rows of files and of texts. -/
namespace Go.Proofs.Ytlgpbmnajlhaoaa
open Go.RowKit
set_option maxRecDepth 20000
/-- The bytes that are digits, that begin a name, that go on in one; hex digits. -/
def dig (c : Int) : Bool := decide (48 ≤ c) && decide (c ≤ 57)
def beg (c : Int) : Bool := (decide (97 ≤ c) && decide (c ≤ 122)) || c == 95
def let_ (c : Int) : Bool := beg c || dig c
def inR (x lo hi : Int) : Bool := decide (lo ≤ x) && decide (x ≤ hi)
def pkg_ (c : Int) : Bool := (decide (97 ≤ c) && decide (c ≤ 122)) || dig c || c == 95 || c == 45 || c == 46 || c == 47
def pkgB (c : UInt8) : Bool := pkg_ c.toNat
def PkgOk (s : ByteArray) : Prop := 1 ≤ s.size ∧ s.size ≤ 30 ∧ ∀ i (h : i < s.size), pkgB s[i] = true

theorem ret_bool {a b : Bool} (h : a = b) : Ending.returned (.bool a) = .returned (.bool b) := by rw [h]
theorem ret_int {k : IntKind} {a b : Int} (h : a = b) : Ending.returned (.int k a) = .returned (.int k b) := by rw [h]
set_option maxHeartbeats 400000 in
theorem isDigit_any (c : Int) (w : World) :
    Calls Try.prog 23 #[.int .u8 c] w fun e w' => e = .returned (.bool (dig c)) ∧ w' = w := by
  go_enter Try.func23, Try.ntmps23
  go_wp2
  all_goals go_ret
  all_goals exact ⟨ret_bool (by unfold dig; rw [Bool.eq_iff_iff]; simp; try omega), rfl⟩
set_option maxHeartbeats 400000 in
theorem l1Digit_any (c : Int) (w : World) :
    Calls Try.prog 19 #[.int .u8 c] w fun e w' => e = .returned (.bool (dig c)) ∧ w' = w := by
  go_enter Try.func19, Try.ntmps19
  go_wp2
  all_goals go_ret
  all_goals exact ⟨ret_bool (by unfold dig; rw [Bool.eq_iff_iff]; simp; try omega), rfl⟩
set_option maxHeartbeats 400000 in
theorem isName_any (c : Int) (w : World) :
    Calls Try.prog 21 #[.int .u8 c] w fun e w' => e = .returned (.bool (let_ c)) ∧ w' = w := by
  go_enter Try.func21, Try.ntmps21
  go_wp2_with (first
    | (go_at_call 23; refine (isDigit_any _ _).mono ?_; rintro e w' ⟨rfl, rfl⟩))
  all_goals go_ret
  all_goals exact ⟨ret_bool (by unfold let_ beg; generalize dig c = d; cases d <;> rw [Bool.eq_iff_iff] <;> simp <;> try omega), rfl⟩
theorem byte_bd (c : UInt8) : 0 ≤ (c.toNat : Int) ∧ (c.toNat : Int) ≤ 255 := by have := c.toNat_lt; omega
theorem head_eq (s : ByteArray) (hp : 0 < s.size) : s.data.toList = s[0] :: s.data.toList.tail := by
  match s, hp with
  | ⟨⟨c :: r⟩⟩, _ => rfl
  | ⟨⟨[]⟩⟩, h => exact absurd h (by decide)
theorem len_size (s : ByteArray) : s.data.toList.length = s.size := by simp
theorem notEmpty (s : ByteArray) (hp : 0 < s.size) : s.toList.isEmpty = false := by
  rw [Lib.toList_data, head_eq s hp]; rfl
theorem bytes_eq {a b : ByteArray} (h : (a.toList == b.toList) = true) : a = b := by
  rw [Lib.toList_data, Lib.toList_data, beq_iff_eq] at h
  exact ByteArray.ext (Array.toList_inj.1 h)
theorem cell_new_row (w : World) (cs : Array Value) (t : TypeId) (i : Nat) : (w.alloc (.cells cs t)).cell? ⟨w.heap.size, i, none⟩ = cs[i]? := by
  have h := heap_alloc_new w (.cells cs t)
  unfold World.cell?
  rw [h]; rfl
theorem hid {p : Prop} (h : p) : Hid p := h
/-- The call answered a bool, and the bool says whether P. -/
def Says (e : Ending) (P : Prop) : Prop := ∃ b, e = .returned (.bool b) ∧ (b = true ↔ P)
theorem says_t {P : Prop} (h : P) : Says (.returned (.bool true)) P := ⟨true, rfl, by simp [h]⟩
theorem says_f {P : Prop} (h : ¬ P) : Says (.returned (.bool false)) P := ⟨false, rfl, by simp [h]⟩
theorem Says.get {e : Ending} {P : Prop} (h : Says e P) : e = .returned (.bool true) ∧ P ∨ e = .returned (.bool false) ∧ ¬ P := by
  obtain ⟨b, rfl, hb⟩ := h
  cases b
  · exact .inr ⟨rfl, fun h => by simp [h] at hb⟩
  · exact .inl ⟨rfl, hb.1 rfl⟩
set_option maxHeartbeats 400000 in
theorem l1In_any (x lo hi : Int) (w : World) :
    Calls Try.prog 12 #[.int .i64 x, .int .i64 lo, .int .i64 hi] w fun e w' => e = .returned (.bool (inR x lo hi)) ∧ w' = w := by
  go_enter Try.func12, Try.ntmps12
  go_wp2
  all_goals go_ret
  all_goals exact ⟨ret_bool (by unfold inR; rw [Bool.eq_iff_iff]; simp; try omega), rfl⟩
set_option maxHeartbeats 1000000 in
theorem l2Package_any (s : ByteArray) (w : World) (hs : s.size ≤ maxLen) :
    Calls Try.prog 11 #[.string s] w fun e w' => Says e (PkgOk s) ∧ w' = w := by
  unfold maxLen at hs
  by_cases h1 : 1 ≤ s.size ∧ s.size ≤ 30
  · obtain ⟨h1, h2⟩ := h1
    have HIN : Hid (inR (s.size : Int) 1 30 = true) := by show _ = _; unfold inR; simp; omega
    go_enter Try.func11, Try.ntmps11
    go_wp2_with (go_at_call 12; refine (l1In_any _ _ _ _).mono ?_; rintro e w' ⟨rfl, rfl⟩; rw [HIN.out])
    go_loop [3] (fun i => ∃ k : Nat, k ≤ s.size ∧ i = .int .i64 k ∧ ∀ j (h : j < s.size), j < k → pkgB s[j] = true) (fun i => s.size - (intOf i).toNat)
    case atStart => exact ⟨0, Nat.zero_le _, rfl, fun j h h0 => absurd h0 (Nat.not_lt_zero _)⟩
    case round =>
      obtain ⟨k, hk, rfl, hr⟩ := hrel
      have HR := hid hr
      clear hr
      by_cases hlt : k < s.size
      · cases hd : dig (s[k].toNat : Int)
        all_goals cases hp : pkg_ (s[k].toNat : Int)
        · have HE : Hid (¬ PkgOk s) := fun h => by have := h.2.2 k hlt; unfold pkgB at this; rw [hp] at this; cases this
          unfold pkg_ at hp
          rw [hd] at hp
          simp at hp
          obtain ⟨⟨⟨⟨p0, p1⟩, p2⟩, p3⟩, p4⟩ := hp
          have p5 : (s[k].toNat : Int) < 97 ∨ 122 < (s[k].toNat : Int) := by
            by_cases q : 97 ≤ (s[k].toNat : Int)
            · exact .inr (p0 q)
            · exact .inl (by omega)
          clear p0
          go_wp2_with (go_at_call 19; refine (l1Digit_any _ _).mono ?_; rintro e w' ⟨rfl, rfl⟩)
          all_goals first
            | (exfalso; (try simp only [bne_iff_ne, bne_eq_false_iff_eq, ne_eq, Bool.not_eq_eq_eq_not, Bool.not_true, Bool.not_false, decide_eq_true_eq, decide_eq_false_iff_not] at *); omega)
            | (go_ret; exact ⟨says_f HE.out, rfl⟩)
        · have NX : Hid (∀ j (h : j < s.size), j < k + 1 → pkgB s[j] = true) := fun j h hj => by
            rcases Nat.lt_or_eq_of_le (Nat.lt_succ_iff.1 hj) with h' | h'
            · exact HR.out j h h'
            · subst h'; exact hp
          unfold pkg_ at hp
          rw [hd] at hp
          simp at hp
          go_wp2_with (go_at_call 19; refine (l1Digit_any _ _).mono ?_; rintro e w' ⟨rfl, rfl⟩)
          all_goals first
            | (exfalso; (try simp only [bne_iff_ne, bne_eq_false_iff_eq, ne_eq] at *); omega)
            | (go_round; (case rel => exact ⟨k + 1, by omega, by go_num, NX.out⟩); (case measure => simp [intOf]; omega))
        · exfalso; unfold pkg_ at hp; rw [hd] at hp; simp at hp
        · have NX : Hid (∀ j (h : j < s.size), j < k + 1 → pkgB s[j] = true) := fun j h hj => by
            rcases Nat.lt_or_eq_of_le (Nat.lt_succ_iff.1 hj) with h' | h'
            · exact HR.out j h h'
            · subst h'; exact hp
          clear hp
          go_wp2_with (go_at_call 19; refine (l1Digit_any _ _).mono ?_; rintro e w' ⟨rfl, rfl⟩)
          all_goals first
            | (exfalso; omega)
            | (go_round; (case rel => exact ⟨k + 1, by omega, by go_num, NX.out⟩); (case measure => simp [intOf]; omega))
      · go_wp2
        go_ret
        exact ⟨says_t ⟨h1, h2, fun i h => HR.out i h (by omega)⟩, rfl⟩
  · have HIN : Hid (inR (s.size : Int) 1 30 = false) := by show _ = _; unfold inR; simp; omega
    go_enter Try.func11, Try.ntmps11
    go_wp2_with (go_at_call 12; refine (l1In_any _ _ _ _).mono ?_; rintro e w' ⟨rfl, rfl⟩; rw [HIN.out])
    go_ret
    exact ⟨says_f (fun h => h1 ⟨h.1, h.2.1⟩), rfl⟩
set_option maxHeartbeats 1000000 in
theorem isPackage_any (s : ByteArray) (w : World) (hs : s.size ≤ maxLen) :
    Calls Try.prog 15 #[.string s] w fun e w' => Says e (PkgOk s) ∧ w' = w := by
  unfold maxLen at hs
  by_cases h0 : s.size = 0
  · have HN : Hid (¬ PkgOk s) := fun h => by have := h.1; omega
    have he : s = ⟨#[]⟩ := ByteArray.ext (Array.eq_empty_of_size_eq_zero h0)
    subst he
    go_enter Try.func15, Try.ntmps15
    go_wp2
    go_ret
    exact ⟨says_f HN.out, rfl⟩
  · have hp : 0 < s.size := by omega
    have hq := notEmpty s hp
    by_cases h30 : s.size ≤ 30
    · go_enter Try.func15, Try.ntmps15
      go_wp2
      go_loop [13] (fun i => ∃ k : Nat, k ≤ s.size ∧ i = .int .i64 k ∧ ∀ j (h : j < s.size), j < k → pkgB s[j] = true) (fun i => s.size - (intOf i).toNat)
      case atStart => exact ⟨0, Nat.zero_le _, rfl, fun j h h0 => absurd h0 (Nat.not_lt_zero _)⟩
      case round =>
        obtain ⟨k, hk, rfl, hr⟩ := hrel
        have HR := hid hr
        clear hr
        by_cases hlt : k < s.size
        · have NX0 : Hid (pkg_ (s[k].toNat : Int) = true → ∀ j (h : j < s.size), j < k + 1 → pkgB s[j] = true) := fun hp j h hj => by
            rcases Nat.lt_or_eq_of_le (Nat.lt_succ_iff.1 hj) with h' | h'
            · exact HR.out j h h'
            · subst h'; exact hp
          have HP : Hid (pkg_ (s[k].toNat : Int) = (let_ (s[k].toNat : Int) || (s[k].toNat : Int) == 45 || (s[k].toNat : Int) == 46 || (s[k].toNat : Int) == 47)) := by
            show _ = _
            unfold pkg_ let_ beg
            generalize dig (s[k].toNat : Int) = d
            cases d <;> simp
          have NE : Hid (pkg_ (s[k].toNat : Int) = false → ¬ PkgOk s) := fun hp h => by have := h.2.2 k hlt; unfold pkgB at this; rw [hp] at this; cases this
          cases hl : let_ (s[k].toNat : Int)
          · by_cases b1 : (s[k].toNat : Int) = 45
            · have NX := hid (NX0.out (by rw [HP.out, b1]; simp))
              have c1 : ((s[k].toNat : Int) != 45) = false := by rw [b1]; rfl
              clear b1
              go_wp2_with (go_at_call 21; refine (isName_any _ _).mono ?_; rintro e w' ⟨rfl, rfl⟩)
              go_round
              case rel => exact ⟨k + 1, by omega, by go_num, NX.out⟩
              case measure => simp [intOf]; omega
            · have c1 : ((s[k].toNat : Int) != 45) = true := by rw [bne_iff_ne]; exact b1
              by_cases b2 : (s[k].toNat : Int) = 46
              · have NX := hid (NX0.out (by rw [HP.out, b2]; simp))
                have c2 : ((s[k].toNat : Int) != 46) = false := by rw [b2]; rfl
                clear b2 b1
                go_wp2_with (go_at_call 21; refine (isName_any _ _).mono ?_; rintro e w' ⟨rfl, rfl⟩)
                go_round
                case rel => exact ⟨k + 1, by omega, by go_num, NX.out⟩
                case measure => simp [intOf]; omega
              · have c2 : ((s[k].toNat : Int) != 46) = true := by rw [bne_iff_ne]; exact b2
                by_cases b3 : (s[k].toNat : Int) = 47
                · have NX := hid (NX0.out (by rw [HP.out, b3]; simp))
                  have c3 : ((s[k].toNat : Int) != 47) = false := by rw [b3]; rfl
                  clear b3 b2 b1
                  go_wp2_with (go_at_call 21; refine (isName_any _ _).mono ?_; rintro e w' ⟨rfl, rfl⟩)
                  go_round
                  case rel => exact ⟨k + 1, by omega, by go_num, NX.out⟩
                  case measure => simp [intOf]; omega
                · have c3 : ((s[k].toNat : Int) != 47) = true := by rw [bne_iff_ne]; exact b3
                  have HE := hid (NE.out (by rw [HP.out, hl]; simp; omega))
                  clear b1 b2 b3
                  go_wp2_with (go_at_call 21; refine (isName_any _ _).mono ?_; rintro e w' ⟨rfl, rfl⟩)
                  go_ret
                  exact ⟨says_f HE.out, rfl⟩
          · have NX := hid (NX0.out (by rw [HP.out, hl]; simp))
            go_wp2_with (go_at_call 21; refine (isName_any _ _).mono ?_; rintro e w' ⟨rfl, rfl⟩)
            go_round
            case rel => exact ⟨k + 1, by omega, by go_num, NX.out⟩
            case measure => simp [intOf]; omega
        · go_wp2
          go_ret
          exact ⟨says_t ⟨hp, h30, fun i h => HR.out i h (by omega)⟩, rfl⟩
    · have HN : Hid (¬ PkgOk s) := fun h => h30 h.2.1
      go_enter Try.func15, Try.ntmps15
      go_wp2
      go_ret
      exact ⟨says_f HN.out, rfl⟩
/-- A world behind w in which all that lay in w is as it was. -/
structure Gr (w : World) where
  W : World
  h : Below w.heap.size w W
theorem wp_region_gr {P : Program} {id : Nat} {Q : Exit → Act → World → Prop} {a : Act} {w : World} {l : List Oper} (hm : P.follows .mixedOrders = true) (hB : Region.lexB .any l.toArray = true)
    (h : wpQuiet P l.toArray (fun w' => ∃ p : Gr w, w' = p.W) (fun a' => ∀ w', (∃ p : Gr w, w' = p.W) → Q .normal a' w') l a) : (Code.region id l.toArray true).wp P Q a w :=
  wp_region_quiet (C := fun w' => ∃ p : Gr w, w' = p.W) hm hB ⟨⟨w.drew, (Below.refl _ _).drew⟩, rfl⟩ (by simpa using h)
theorem Calls.gr_of {P : Program} {f : FuncId} {args : Array Value} {w : World} {p : Gr w} {v : Value} (h : Below w.heap.size w p.W → Calls P f args p.W fun e w' => e = .returned v ∧ Below p.W.heap.size p.W w') :
    Calls P f args p.W fun e w'' => e = .returned v ∧ ∃ p : Gr w, w'' = p.W :=
  (h p.h).mono fun _ w' ⟨he, hb⟩ => ⟨he, ⟨w', p.h.trans (hb.mono p.h.size)⟩, rfl⟩
theorem add_block (a : Addr) (n : Nat) : (a.add n).block = a.block := by unfold Addr.add; split <;> rfl
theorem below_two' (w : World) (a b : Obj) : Below w.heap.size w ((w.alloc a).alloc b) := ((Below.refl _ _).alloc (Nat.le_refl _) a).alloc (by simp) b
theorem set_at {W : World} {g i : Nat} {cur : Array Value} {t : TypeId} (v : Value) (h : W.heap[g]? = some (.cells cur t (0, 0))) : (W.setCell ⟨g, i, none⟩ v).heap[g]? = some (.cells (cur.setIfInBounds i v) t (0, 0)) := by
  unfold World.setCell
  simp only [Array.getElem?_modify, h]
  simp
theorem below_set {B : Nat} {w w' : World} (h : Below B w w') (g i : Nat) (hg : B ≤ g) (v : Value) : Below B w (w'.setCell ⟨g, i, none⟩ v) := h.setCell hg v

theorem below_drewN {B : Nat} {w w' : World} (h : Below B w w') (n : Nat) : Below B w (w'.drewN n) := by
  induction n with
  | zero => exact h
  | succ n ih => exact ih.drew
theorem Says.pos {e : Ending} {P : Prop} (h : Says e P) (hp : P) : e = .returned (.bool true) := by
  rcases h.get with ⟨h1, _⟩ | ⟨_, h2⟩
  · exact h1
  · exact absurd hp h2
theorem Says.neg {e : Ending} {P : Prop} (h : Says e P) (hp : ¬ P) : e = .returned (.bool false) := by
  rcases h.get with ⟨_, h2⟩ | ⟨h1, _⟩
  · exact absurd h2 hp
  · exact h1

/-- A package: its name and its text. -/
structure Fl where
  name : ByteArray
  text : ByteArray
def ltB (a b : ByteArray) : Bool := Go.Op.bytesLess a.toList b.toList
def TwoAt (W : World) (g i : Nat) (x : Fl) : Prop := W.cell? ⟨g, i * 2, none⟩ = some (.string x.name) ∧ W.cell? ⟨g, i * 2 + 1, none⟩ = some (.string x.text)
/-- N files in block g. -/
def FilesAt (W : World) (g N : Nat) (f : Nat → Fl) : Prop := ∀ i, i < N → TwoAt W g i (f i)
/-- N texts in block g. -/
def TextsAt (W : World) (g N : Nat) (s : Nat → ByteArray) : Prop := ∀ i, i < N → W.cell? ⟨g, i, none⟩ = some (.string (s i))
theorem FilesAt.below {W W' : World} {g N : Nat} {f : Nat → Fl} (h : FilesAt W g N f) (hb : Below W.heap.size W W') (hg : g < W.heap.size) : FilesAt W' g N f := fun i hi => by
  obtain ⟨c0, c1⟩ := h i hi
  exact ⟨(hb.cell (p := ⟨g, i * 2, none⟩) hg).trans c0, (hb.cell (p := ⟨g, i * 2 + 1, none⟩) hg).trans c1⟩
theorem TextsAt.below {W W' : World} {g N : Nat} {s : Nat → ByteArray} (h : TextsAt W g N s) (hb : Below W.heap.size W W') (hg : g < W.heap.size) : TextsAt W' g N s := fun i hi =>
  (hb.cell (p := ⟨g, i, none⟩) hg).trans (h i hi)
/-- File i of a world is right. -/
def FlOk (f : Nat → Fl) (i : Nat) : Prop := PkgOk (f i).name ∧ (f i).text.size ≤ 8000 ∧ (0 < i → ltB (f (i - 1)).name (f i).name = true)
def NmOk (s : Nat → ByteArray) (i : Nat) : Prop := 1 ≤ (s i).size ∧ (s i).size ≤ 1000 ∧ (0 < i → ltB (s (i - 1)) (s i) = true)
/-- A world is valid. -/
def WorldOk (N M : Nat) (f : Nat → Fl) (s : Nat → ByteArray) : Prop := N ≤ 20 ∧ M ≤ 60 ∧ (∀ i, i < N → FlOk f i) ∧ ∀ i, i < M → NmOk s i
theorem all_step {P : Nat → Prop} {k : Nat} (h : ∀ i, i < k → P i) (hk : P k) : ∀ i, i < k + 1 → P i := fun i hi => by
  rcases Nat.lt_or_eq_of_le (Nat.lt_succ_iff.1 hi) with h' | h'
  · exact h i h'
  · subst h'; exact hk
/-- The two cells of a world in a box of its own. -/
theorem world_box {w wr : World} {u v : Value} {t : TypeId} (h : Below (w.heap.size + 1) (w.alloc (.cells #[u, v] t)) wr) :
    wr.cell? ⟨w.heap.size, 0, none⟩ = some u ∧ wr.cell? ⟨w.heap.size, 1, none⟩ = some v := by
  constructor
  · rw [h.cell (p := ⟨w.heap.size, 0, none⟩) (by simp), cell_new_row]; rfl
  · rw [h.cell (p := ⟨w.heap.size, 1, none⟩) (by simp), cell_new_row]; rfl
theorem btwo {w wr : World} {o : Obj} (h : Below (w.heap.size + 1) (w.alloc o) wr) : Below w.heap.size w wr := ((Below.refl _ _).alloc (Nat.le_refl _) o).trans (h.mono (by omega))
end Go.Proofs.Ytlgpbmnajlhaoaa
