import Derived.Test.YthnohneaanphbaaGreatDoorJ00
namespace Go.Proofs.YthnohneaanphbaaGreatDoor
open Go.RowKit
def Says (e:Ending) (P:Prop):Prop:=∃ b,e=.returned (.bool b)∧(b=true ↔ P)
theorem says_t {P:Prop} (h:P):Says (.returned (.bool true)) P:=⟨true,rfl,by simp [h]⟩
theorem says_f {P:Prop} (h:¬ P):Says (.returned (.bool false)) P:=⟨false,rfl,by simp [h]⟩
theorem Says.get {e:Ending} {P:Prop} (h:Says e P):e=.returned (.bool true)∧P∨e=.returned (.bool false)∧¬ P:=by
 obtain ⟨b,rfl,hb⟩:=h
 cases b
 ·exact .inr ⟨rfl,fun h=>by simp [h] at hb⟩
 ·exact .inl ⟨rfl,hb.1 rfl⟩
set_option maxHeartbeats 400000 in
theorem l1In_any (x lo hi:Int) (w:World) :
  Calls Tryz.prog 22 #[.int .i64 x,.int .i64 lo,.int .i64 hi] w fun e w'=>e=.returned (.bool (inR x lo hi))∧w'=w:=by
 go_enter Tryz.func22,Tryz.ntmps22
 go_wp2
 all_goals go_ret
 all_goals exact ⟨ret_bool (by unfold inR;rw [Bool.eq_iff_iff];simp;try omega),rfl⟩
set_option maxHeartbeats 400000 in
theorem l2E_any (x:Int) (w:World) :
  Calls Tryz.prog 75 #[.int .i64 x] w fun e w'=>e=.returned (.bool (isE x))∧w'=w:=by
 go_enter Tryz.func75,Tryz.ntmps75
 go_wp2_with (go_at_call 22;refine (l1In_any _ _ _ _).mono ?_;rintro e w' ⟨rfl,rfl⟩)
 go_ret
 exact ⟨rfl,rfl⟩
set_option maxHeartbeats 1000000 in
theorem l2Package_any (s:ByteArray) (w:World) (hs:s.size≤maxLen) :
  Calls Tryz.prog 74 #[.string s] w fun e w'=>Says e (PkgOk s)∧w'=w:=by
 unfold maxLen at hs
 by_cases h1:1≤s.size∧s.size≤30
 ·obtain ⟨h1,h2⟩:=h1
  have HIN:Hid (inR (s.size:Int) 1 30=true):=by show _=_;unfold inR;simp;omega
  go_enter Tryz.func74,Tryz.ntmps74
  go_wp2_with (go_at_call 22;refine (l1In_any _ _ _ _).mono ?_;rintro e w' ⟨rfl,rfl⟩;rw [HIN.out])
  go_loop [3] (fun i=>∃ k:Nat,k≤s.size∧i=.int .i64 k∧∀ j (h:j < s.size),j < k→pkgB s[j]=true) (fun i=>s.size - (intOf i).toNat)
  case atStart=>exact ⟨0,Nat.zero_le _,rfl,fun j h h0=>absurd h0 (Nat.not_lt_zero _)⟩
  case round =>
   obtain ⟨k,hk,rfl,hr⟩:=hrel
   have HR:=hid hr
   clear hr
   by_cases hlt:k < s.size
   ·cases hd:dig (s[k].toNat:Int)
    all_goals cases hp:pkg_ (s[k].toNat:Int)
    ·have HE:Hid (¬ PkgOk s):=fun h=>by have:=h.2.2 k hlt;unfold pkgB at this;rw [hp] at this;cases this
     unfold pkg_ at hp
     rw [hd] at hp
     simp at hp
     obtain ⟨⟨⟨⟨p0,p1⟩,p2⟩,p3⟩,p4⟩:=hp
     have p5:(s[k].toNat:Int) < 97∨122 < (s[k].toNat:Int):=by
      by_cases q:97≤(s[k].toNat:Int)
      ·exact .inr (p0 q)
      ·exact .inl (by omega)
     clear p0
     go_wp2_with (go_at_call 73;refine (l1Digit_any _ _).mono ?_;rintro e w' ⟨rfl,rfl⟩)
     all_goals first
      | (exfalso;(try simp only [bne_iff_ne,bne_eq_false_iff_eq,ne_eq,Bool.not_eq_eq_eq_not,Bool.not_true,Bool.not_false,decide_eq_true_eq,decide_eq_false_iff_not] at *);omega)
      | (go_ret;exact ⟨says_f HE.out,rfl⟩)
    ·have NX:Hid (∀ j (h:j < s.size),j < k+1→pkgB s[j]=true):=fun j h hj=>by
      rcases Nat.lt_or_eq_of_le (Nat.lt_succ_iff.1 hj) with h' | h'
      ·exact HR.out j h h'
      ·subst h';exact hp
     unfold pkg_ at hp
     rw [hd] at hp
     simp at hp
     go_wp2_with (go_at_call 73;refine (l1Digit_any _ _).mono ?_;rintro e w' ⟨rfl,rfl⟩)
     all_goals first
      | (exfalso;(try simp only [bne_iff_ne,bne_eq_false_iff_eq,ne_eq] at *);omega)
      | (go_round;(case rel=>exact ⟨k+1,by omega,by go_num,NX.out⟩);(case measure=>simp [intOf];omega))
    ·exfalso;unfold pkg_ at hp;rw [hd] at hp;simp at hp
    ·have NX:Hid (∀ j (h:j < s.size),j < k+1→pkgB s[j]=true):=fun j h hj=>by
      rcases Nat.lt_or_eq_of_le (Nat.lt_succ_iff.1 hj) with h' | h'
      ·exact HR.out j h h'
      ·subst h';exact hp
     clear hp
     go_wp2_with (go_at_call 73;refine (l1Digit_any _ _).mono ?_;rintro e w' ⟨rfl,rfl⟩)
     all_goals first
      | (exfalso;omega)
      | (go_round;(case rel=>exact ⟨k+1,by omega,by go_num,NX.out⟩);(case measure=>simp [intOf];omega))
   ·go_wp2
    go_ret
    exact ⟨says_t ⟨h1,h2,fun i h=>HR.out i h (by omega)⟩,rfl⟩
 ·have HIN:Hid (inR (s.size:Int) 1 30=false):=by show _=_;unfold inR;simp;omega
  go_enter Tryz.func74,Tryz.ntmps74
  go_wp2_with (go_at_call 22;refine (l1In_any _ _ _ _).mono ?_;rintro e w' ⟨rfl,rfl⟩;rw [HIN.out])
  go_ret
  exact ⟨says_f (fun h=>h1 ⟨h.1,h.2.1⟩),rfl⟩
set_option maxHeartbeats 1000000 in
theorem l1NameOk_any (s:ByteArray) (w:World) (hs:s.size≤maxLen) :
  Calls Tryz.prog 23 #[.string s] w fun e w'=>Says e (NameOk s)∧Below w.heap.size w w':=by
 unfold maxLen at hs
 by_cases h1:1≤s.size∧s.size≤30
 ·obtain ⟨h1,h2⟩:=h1
  have h0:0 < s.size:=h1
  have HIN:Hid (inR (s.size:Int) 1 30=true):=by show _=_;unfold inR;simp;omega
  cases hb:beg (s[0].toNat:Int)
  ·have HE:Hid (¬ NameOk s):=fun ⟨_,_,h,_⟩=>by unfold begB at h;rw [hb] at h;cases h
   go_enter Tryz.func23,Tryz.ntmps23
   go_wp2_with (first
    | (go_at_call 22;refine (l1In_any _ _ _ _).mono ?_;rintro e w' ⟨rfl,rfl⟩;rw [HIN.out])
    | (go_at_call 44;refine (l1Begins_any _ _).mono ?_;rintro e w' ⟨rfl,rfl⟩))
   go_ret
   exact ⟨says_f HE.out,Below.refl _ _⟩
  ·by_cases hw:s.data.toList ∈ words
   ·have HE:Hid (¬ NameOk s):=fun ⟨_,_,_,h,_⟩=>h hw
    have HW:Hid (decide (s.data.toList ∈ words)=true):=by show _=_;simp [hw]
    clear hw
    go_enter Tryz.func23,Tryz.ntmps23
    go_wp2_with (first
     | (go_at_call 22;refine (l1In_any _ _ _ _).mono ?_;rintro e w' ⟨rfl,hw⟩;have hw2:=hw.symm;clear hw;subst hw2;rw [HIN.out])
     | (go_at_call 44;refine (l1Begins_any _ _).mono ?_;rintro e w' ⟨rfl,hw⟩;have hw2:=hw.symm;clear hw;subst hw2)
     | (go_at_call 45;refine (l1Words_any _).mono ?_;rintro e w' ⟨rfl,rfl⟩)
     | (go_at_call 24;refine (l1Has_words _ _ w.heap.size (fun i hi=>wordS_cell w i hi)).mono ?_;rintro e w' ⟨rfl,rfl⟩;rw [HW.out]))
    go_ret
    exact ⟨says_f HE.out,(Below.refl _ _).alloc (Nat.le_refl _) _⟩
   ·have HNW:=hid hw
    have HW:Hid (decide (s.data.toList ∈ words)=false):=by show _=_;simp [hw]
    clear hw
    go_enter Tryz.func23,Tryz.ntmps23
    go_wp2_with (first
     | (go_at_call 22;refine (l1In_any _ _ _ _).mono ?_;rintro e w' ⟨rfl,hw⟩;have hw2:=hw.symm;clear hw;subst hw2;rw [HIN.out])
     | (go_at_call 44;refine (l1Begins_any _ _).mono ?_;rintro e w' ⟨rfl,hw⟩;have hw2:=hw.symm;clear hw;subst hw2)
     | (go_at_call 45;refine (l1Words_any _).mono ?_;rintro e w' ⟨rfl,rfl⟩)
     | (go_at_call 24;refine (l1Has_words _ _ w.heap.size (fun i hi=>wordS_cell w i hi)).mono ?_;rintro e w' ⟨rfl,hw⟩;have hw2:=hw.symm;clear hw;subst hw2;rw [HW.out]))
    go_loop [3] (fun i=>∃ k:Nat,k≤s.size∧i=.int .i64 k∧∀ j (h:j < s.size),j < k→letB s[j]=true) (fun i=>s.size - (intOf i).toNat)
    case atStart=>exact ⟨0,Nat.zero_le _,rfl,fun j h h0=>absurd h0 (Nat.not_lt_zero _)⟩
    case round =>
     obtain ⟨k,hk,rfl,hr⟩:=hrel
     have HR:=hid hr
     clear hr
     by_cases hlt:k < s.size
     ·cases hp:let_ (s[k].toNat:Int)
      ·have HE:Hid (¬ NameOk s):=fun ⟨_,_,_,_,h⟩=>by have:=h k hlt;unfold letB at this;rw [hp] at this;cases this
       go_wp2_with (go_at_call 46;refine (l1Letter_any _ _).mono ?_;rintro e w' ⟨rfl,rfl⟩)
       go_ret
       exact ⟨says_f HE.out,(Below.refl _ _).alloc (Nat.le_refl _) _⟩
      ·have NX:Hid (∀ j (h:j < s.size),j < k+1→letB s[j]=true):=fun j h hj=>by
        rcases Nat.lt_or_eq_of_le (Nat.lt_succ_iff.1 hj) with h' | h'
        ·exact HR.out j h h'
        ·subst h';exact hp
       go_wp2_with (go_at_call 46;refine (l1Letter_any _ _).mono ?_;rintro e w' ⟨rfl,rfl⟩)
       go_round
       case rel=>exact ⟨k+1,by omega,by go_num,NX.out⟩
       case measure=>simp [intOf];omega
     ·go_wp2
      go_ret
      exact ⟨says_t ⟨h0,h2,hb,HNW.out,fun i h=>HR.out i h (by omega)⟩,(Below.refl _ _).alloc (Nat.le_refl _) _⟩
 ·have HIN:Hid (inR (s.size:Int) 1 30=false):=by show _=_;unfold inR;simp;omega
  go_enter Tryz.func23,Tryz.ntmps23
  go_wp2_with (go_at_call 22;refine (l1In_any _ _ _ _).mono ?_;rintro e w' ⟨rfl,rfl⟩;rw [HIN.out])
  go_ret
  exact ⟨says_f (fun ⟨a,b,_⟩=>h1 ⟨a,b⟩),Below.refl _ _⟩
end Go.Proofs.YthnohneaanphbaaGreatDoor
