import Derived.Test.YtabbahpalemlhaaGreatDoorChecked
import Derived.WalkKit
import Derived.WalkSpells
import Derived.WalkLawsBesides
import Derived.Deep.QuietTactic
import Derived.BigQuiet
namespace Go.Proofs.YtabbahpalemlhaaGreatDoor
def dig (c:Int):Bool:=decide (48≤c) && decide (c≤57)
def beg (c:Int):Bool:=(decide (97≤c) && decide (c≤122)) || c == 95
def let_ (c:Int):Bool:=beg c || dig c
def hexv (c:Int):Int:=if 48≤c∧c≤57 then c - 48 else if 97≤c∧c≤102 then c - 87 else -1
def digB (c:UInt8):Bool:=dig c.toNat
def begB (c:UInt8):Bool:=beg c.toNat
def letB (c:UInt8):Bool:=let_ c.toNat
def run (p:UInt8→Bool) (l:List UInt8):Nat:=(l.takeWhile p).length
theorem run_le (p:UInt8→Bool) (l:List UInt8):run p l≤l.length:=by
 unfold run;induction l with
 | nil=>simp
 | cons a l ih=>by_cases h:p a <;> simp [h] <;> omega
theorem run_cons (p:UInt8→Bool) (a:UInt8) (l:List UInt8):run p (a :: l)=if p a=true then run p l+1 else 0:=by
 unfold run;by_cases h:p a <;> simp [h]
theorem run_all (p:UInt8→Bool) (l:List UInt8) (k:Nat) (hk:k≤run p l) (i:Nat) (hi:i < k) (hl:i < l.length):p l[i]=true:=by
 induction l generalizing k i with
 | nil=>simp at hl
 | cons a l ih =>
  rw [run_cons] at hk
  by_cases h:p a
  ·rw [if_pos h] at hk
   cases i with
   | zero=>exact h
   | succ i=>exact ih (k - 1) (by omega) i (by omega) (by simpa using hl)
  ·rw [if_neg h] at hk;omega
theorem run_step (p:UInt8→Bool) (l:List UInt8) (k:Nat) (hk:k≤run p l) (hl:k < l.length) (hp:p l[k]=true):k+1≤run p l:=by
 induction l generalizing k with
 | nil=>simp at hl
 | cons a l ih =>
  rw [run_cons] at hk ⊢
  cases k with
  | zero=>simp at hp;rw [if_pos hp];omega
  | succ k =>
   by_cases h:p a
   ·rw [if_pos h] at hk ⊢
    have:=ih k (by omega) (by simpa using hl) (by simpa using hp);omega
   ·rw [if_neg h] at hk;omega
theorem run_stop (p:UInt8→Bool) (l:List UInt8) (k:Nat) (hk:k≤run p l) (hl:k < l.length) (hp:p l[k]=false):run p l=k:=by
 apply Nat.le_antisymm _ hk
 apply Nat.le_of_not_lt;intro h
 have:=run_all p l (run p l) (Nat.le_refl _) k h hl
 rw [hp] at this;cases this
theorem hexv_le (c:Int):-1≤hexv c∧hexv c≤15:=by unfold hexv;split <;> (try split) <;> omega
def gapN:Bool→List UInt8→Nat
 | _,[]=>0
 | true,c :: r=>if c=10 then gapN false r+1 else gapN true r+1
 | false,c :: r=>if c=35 then gapN true r+1 else if c=32∨c=10 then gapN false r+1 else 0
theorem gapN_le (b:Bool) (l:List UInt8):gapN b l≤l.length:=by
 induction l generalizing b with
 | nil=>cases b <;> simp [gapN]
 | cons c r ih =>
  have h1:=ih true;have h2:=ih false
  cases b <;> unfold gapN <;> simp only [List.length_cons] <;> (repeat' split) <;> omega
theorem gapN_true_nl (r:List UInt8):gapN true (10 :: r)=gapN false (10 :: r):=by simp [gapN]
theorem gt_step (l:List UInt8) (m:Nat) (h:m < l.length) (hc:¬ l[m].toNat=10):gapN true (l.drop m)=gapN true (l.drop (m+1))+1:=by
 rw [List.drop_eq_getElem_cons h];simp only [gapN];rw [if_neg];intro e;rw [e] at hc;exact hc rfl
theorem gt_nl (l:List UInt8) (m:Nat) (h:m < l.length) (hc:l[m].toNat=10):gapN true (l.drop m)=gapN false (l.drop m):=by
 have e:l[m]=10:=UInt8.toNat_inj.1 hc
 rw [List.drop_eq_getElem_cons h,e,gapN_true_nl]
theorem g_end (b:Bool) (l:List UInt8) (m:Nat) (h:l.length≤m):gapN b (l.drop m)=0:=by
 rw [List.drop_of_length_le h];cases b <;> rfl
theorem gf_note (l:List UInt8) (m:Nat) (h:m < l.length) (hc:l[m].toNat=35):gapN false (l.drop m)=gapN true (l.drop m):=by
 have e:l[m]=35:=UInt8.toNat_inj.1 hc
 rw [List.drop_eq_getElem_cons h,e];simp [gapN]
theorem gf_blank (l:List UInt8) (m:Nat) (h:m < l.length) (hc:l[m].toNat=32∨l[m].toNat=10):gapN false (l.drop m)=gapN false (l.drop (m+1))+1:=by
 rw [List.drop_eq_getElem_cons h]
 rcases hc with hc | hc
 ·have e:l[m]=32:=UInt8.toNat_inj.1 hc
  rw [e];simp [gapN]
 ·have e:l[m]=10:=UInt8.toNat_inj.1 hc
  rw [e];simp [gapN]
theorem gf_stop (l:List UInt8) (m:Nat) (h:m < l.length) (h1:¬ l[m].toNat=35) (h2:¬ l[m].toNat=32) (h3:¬ l[m].toNat=10):gapN false (l.drop m)=0:=by
 rw [List.drop_eq_getElem_cons h];simp only [gapN]
 rw [if_neg (fun e=>h1 (by rw [e];rfl)),if_neg]
 rintro (e | e)
 ·exact h2 (by rw [e];rfl)
 ·exact h3 (by rw [e];rfl)
def nn (c:UInt8):Bool:=c != 10
def gap1:List UInt8→Nat
 | []=>0
 | c :: r=>if c.toNat=32∨c.toNat=10 then 1 else if c.toNat=35 then run nn (c :: r) else 0
theorem gapN_note (l:List UInt8):gapN true l=run nn l+gapN false (l.drop (run nn l)):=by
 induction l with
 | nil=>simp [gapN,run]
 | cons c r ih =>
  rw [run_cons]
  by_cases h:c=10
  ·subst h;simp [nn,gapN]
  ·have e:nn c=true:=by simp [nn,h]
   rw [if_pos e,List.drop_succ_cons]
   simp only [gapN]
   rw [if_neg h,ih];omega
theorem u8_eq {c:UInt8} {k:Nat} (hk:k < 256):c.toNat=k ↔ c=UInt8.ofNat k:=by
 constructor
 ·intro h;apply UInt8.toNat_inj.1;rw [h];simp;omega
 ·intro h;rw [h];simp;omega
theorem gapN_gap1 (l:List UInt8):gapN false l=gap1 l+(if gap1 l=0 then 0 else gapN false (l.drop (gap1 l))):=by
 cases l with
 | nil=>simp [gapN,gap1]
 | cons c r =>
  by_cases h1:c=35
  ·subst h1
   have g:gap1 (35 :: r)=run nn r+1:=by simp [gap1,run_cons,nn]
   rw [g,if_neg (by omega),List.drop_succ_cons]
   simp only [gapN]
   rw [if_pos trivial,gapN_note r];omega
  ·by_cases h2:c=32∨c=10
   ·have g:gap1 (c :: r)=1:=by
     simp only [gap1];rw [if_pos]
     rcases h2 with rfl | rfl
     ·left;rfl
     ·right;rfl
    rw [g,if_neg (by omega)]
    simp only [gapN]
    rw [if_neg h1,if_pos h2];simp;omega
   ·have g:gap1 (c :: r)=0:=by
     simp only [gap1]
     rw [if_neg (fun h=>h2 (h.imp (u8_eq (by decide)).1 (u8_eq (by decide)).1)),if_neg (fun h=>h1 ((u8_eq (by decide)).1 h))]
    rw [g,if_pos rfl]
    simp only [gapN]
    rw [if_neg h1,if_neg h2]
theorem gap1_le (l:List UInt8):gap1 l≤l.length:=by
 cases l with
 | nil=>simp [gap1]
 | cons c r =>
  simp only [gap1];have:=run_le nn (c :: r)
  split
  ·simp
  ·split
   ·exact this
   ·omega
def dval (l:List UInt8):Nat:=l.foldl (fun a c=>a * 10+(c.toNat - 48)) 0
theorem dval_snoc (l:List UInt8) (c:UInt8):dval (l ++ [c])=dval l * 10+(c.toNat - 48):=by simp [dval]
def tb:List UInt8→Option (UInt8 × Nat)
 | []=>none
 | c :: r=>if c.toNat < 32∨126 < c.toNat then none else if c.toNat≠92 then some (c,1) else
  match r with
  | a :: b :: _=>if hexv a.toNat < 0∨hexv b.toNat < 0 then none else some ((hexv a.toNat * 16+hexv b.toNat).toNat.toUInt8,3)
  | _=>none
def unqF:Nat→List UInt8→Option (List UInt8 × Nat)
 | 0,_=>none
 | _+1,[]=>none
 | f+1,c :: r=>if c.toNat=34 then some ([],1) else
  match tb (c :: r) with
  | none=>none
  | some (b,k)=>match unqF f ((c :: r).drop k) with
   | none=>none
   | some (o,m)=>some (b :: o,m+k)
theorem tb_pos {l:List UInt8} {b:UInt8} {k:Nat} (h:tb l=some (b,k)):1≤k∧k≤l.length:=by
 cases l with
 | nil=>simp [tb] at h
 | cons c r =>
  simp only [tb] at h
  split at h
  ·cases h
  ·split at h
   ·cases h;simp
   ·split at h
    ·split at h
     ·cases h
     ·cases h;simp
    ·cases h
def marks:List (List UInt8):=[[61,61],[33,61],[60,61],[62,61],[61,62],[40],[41],[91],[93],[123],[125],[44],[59],[58],[46],[61],[60],[62],[43],[45],[42],[47],[37]]
def words:List (List UInt8):=[[97,110,100],[100,101,102],[101,108,115,101],[101,109,105,116],[102,97,108,115,101],[102,110],[102,111,114],[104,97,115],[105,102],[105,110],[108,101,116],[108,111,97,100],[110,111,110,101],[110,111,116],[111,114],[116,104,101,110],[116,114,117,101]]
structure One where
 kind:Nat
 text:List UInt8
 n:Nat
 size:Nat
 code:Nat
def One.bad (c:Nat):One:=⟨0,[],0,0,c⟩
def numOne (l:List UInt8):One :=
 if run letB l≠run digB l∨(l.take 1=[48]∧1 < run digB l)∨9223372036854775808≤dval (l.take (run digB l)) then One.bad 3
 else ⟨3,[],dval (l.take (run digB l)),run digB l,0⟩
def nameOne (l:List UInt8):One :=
 if l.take (run letB l) ∈ words then ⟨2,l.take (run letB l),0,run letB l,0⟩
 else if 30 < run letB l then One.bad 5 else ⟨1,l.take (run letB l),0,run letB l,0⟩
def textOne (r:List UInt8):One :=
 match unqF (r.length+1) r with
 | none=>One.bad 4
 | some (o,k)=>if 1000 < o.length then One.bad 5 else ⟨4,o,0,k+1,0⟩
def markOne (l:List UInt8):One :=
 match marks.find? (fun m=>m.isPrefixOf l) with
 | none=>One.bad 2
 | some m=>⟨5,m,0,m.length,0⟩
def one:List UInt8→One
 | []=>One.bad 2
 | c :: r=>if c.toNat=34 then textOne r else if digB c=true then numOne (c :: r) else if letB c=true then nameOne (c :: r) else markOne (c :: r)
structure Tok where
 kind:Nat
 text:List UInt8
 n:Nat
 place:Nat
def scanA:Nat→List UInt8→Nat→List Tok × Option (Nat × Nat)
 | 0,_,_=>([],none)
 | f+1,l,p=>if l.length≤p then ([],none) else
  if (one (l.drop p)).code≠0 then ([],some ((one (l.drop p)).code,p)) else
   (⟨(one (l.drop p)).kind,(one (l.drop p)).text,(one (l.drop p)).n,p⟩ :: (scanA f l (p+(one (l.drop p)).size+gapN false (l.drop (p+(one (l.drop p)).size)))).1,
    (scanA f l (p+(one (l.drop p)).size+gapN false (l.drop (p+(one (l.drop p)).size)))).2)
def scanR (l:List UInt8):List Tok × Nat × Nat :=
 if 8000 < l.length then ([],1,0) else
  match scanA (l.length+1) l (gapN false l) with
  | (ts,none)=>(ts,0,0)
  | (_,some x)=>([],x)
theorem dig_let {c:UInt8} (h:digB c=true):letB c=true:=by
 unfold letB let_;unfold digB at h;rw [h];simp
theorem run_mono {p q:UInt8→Bool} (hpq:∀ c,p c=true→q c=true) (l:List UInt8):run p l≤run q l:=by
 induction l with
 | nil=>simp [run]
 | cons a l ih =>
  rw [run_cons,run_cons]
  by_cases h:p a=true
  ·rw [if_pos h,if_pos (hpq a h)];omega
  ·rw [if_neg h];exact Nat.zero_le _
theorem num_let (L:List UInt8) (k:Nat) (hd:run digB L=k) (hl:k < L.length):(letB L[k]=true ↔ run letB L≠k):=by
 have hm:=run_mono (fun c=>dig_let (c:=c)) L
 rw [hd] at hm
 constructor
 ·intro h;have:=run_step letB L k hm hl h;omega
 ·intro h
  cases hb:letB L[k]
  ·exact absurd (run_stop letB L k hm hl hb) h
  ·rfl
theorem num_end (L:List UInt8) (hd:run digB L=L.length):run letB L=L.length:=by
 have hm:=run_mono (fun c=>dig_let (c:=c)) L
 have:=run_le letB L;omega
theorem num_bad (L:List UInt8) (k:Nat) (hd:run digB L=k) (h:run letB L≠k∨(L.take 1=[48]∧1 < k)∨9223372036854775807 < dval (L.take k)):numOne L=One.bad 3:=by
 unfold numOne;rw [hd,if_pos]
 rcases h with h | h | h
 ·exact .inl h
 ·exact .inr (.inl h)
 ·exact .inr (.inr (by omega))
theorem num_good (L:List UInt8) (k:Nat) (hd:run digB L=k) (h1:run letB L=k) (h2:¬ (L.take 1=[48]∧1 < k)) (h3:dval (L.take k)≤9223372036854775807):numOne L=⟨3,[],dval (L.take k),k,0⟩:=by
 unfold numOne;rw [hd,if_neg]
 rintro (h | h | h)
 ·exact h h1
 ·exact h2 h
 ·omega
theorem dval_step (L:List UInt8) (k:Nat) (hl:k < L.length):dval (L.take (k+1))=dval (L.take k) * 10+(L[k].toNat - 48):=by
 rw [List.take_succ_eq_append_getElem hl,dval_snoc]
def unqAt (f:Nat) (l:List UInt8) (p:Nat) (acc:List UInt8):Option (List UInt8 × Nat):=(unqF f (l.drop p)).map fun x=>(acc ++ x.1,p+x.2)
theorem unqAt_end (f:Nat) (l:List UInt8) (p:Nat) (acc:List UInt8) (h:l.length≤p):unqAt f l p acc=none:=by
 unfold unqAt;rw [List.drop_of_length_le h];cases f <;> rfl
theorem unqAt_quote (f:Nat) (l:List UInt8) (p:Nat) (acc:List UInt8) (h:p < l.length) (hc:l[p].toNat=34):unqAt (f+1) l p acc=some (acc,p+1):=by
 unfold unqAt;rw [List.drop_eq_getElem_cons h];simp only [unqF];rw [if_pos hc];simp
theorem unqAt_bad (f:Nat) (l:List UInt8) (p:Nat) (acc:List UInt8) (h:p < l.length) (hc:¬ l[p].toNat=34) (ht:tb (l.drop p)=none):unqAt (f+1) l p acc=none:=by
 unfold unqAt;rw [List.drop_eq_getElem_cons h] at ht ⊢;simp only [unqF];rw [if_neg hc,ht];rfl
theorem unqAt_go (f:Nat) (l:List UInt8) (p:Nat) (acc:List UInt8) (h:p < l.length) (hc:¬ l[p].toNat=34) {b:UInt8} {m:Nat} (ht:tb (l.drop p)=some (b,m)) :
  unqAt (f+1) l p acc=unqAt f l (p+m) (acc ++ [b]):=by
 unfold unqAt
 have hd:(l.drop p).drop m=l.drop (p+m):=by rw [List.drop_drop]
 rw [← hd]
 rw [List.drop_eq_getElem_cons h] at ht ⊢
 generalize l[p]=c at *
 generalize l.drop (p+1)=r at *
 simp only [unqF];rw [if_neg hc,ht]
 cases hu:unqF f (List.drop m (c :: r)) with
 | none=>simp [hu]
 | some x=>simp [hu,List.append_assoc];omega
theorem tb_low (l:List UInt8) (p:Nat) (h:p < l.length) (hc:l[p].toNat < 32∨126 < l[p].toNat):tb (l.drop p)=none:=by
 rw [List.drop_eq_getElem_cons h];simp only [tb];rw [if_pos hc]
theorem tb_plain (l:List UInt8) (p:Nat) (h:p < l.length) (h1:32≤l[p].toNat) (h2:l[p].toNat≤126) (h3:¬ l[p].toNat=92):tb (l.drop p)=some (l[p],1):=by
 rw [List.drop_eq_getElem_cons h];simp only [tb];rw [if_neg (by omega),if_pos h3]
theorem tb_short (l:List UInt8) (p:Nat) (h:p < l.length) (h3:l[p].toNat=92) (hl:l.length≤p+2):tb (l.drop p)=none:=by
 rw [List.drop_eq_getElem_cons h];simp only [tb];rw [if_neg (by omega),if_neg (by omega)]
 have hlen:(l.drop (p+1)).length≤1:=by rw [List.length_drop];omega
 match hr:l.drop (p+1) with
 | []=>rfl
 | [_]=>rfl
 | _ :: _ :: _=>rw [hr] at hlen;simp at hlen
theorem tb_hex (l:List UInt8) (p:Nat) (h:p+2 < l.length) (h3:l[p].toNat=92) :
  tb (l.drop p)=if hexv l[p+1].toNat < 0∨hexv l[p+2].toNat < 0 then none else some ((hexv l[p+1].toNat * 16+hexv l[p+2].toNat).toNat.toUInt8,3):=by
 rw [List.drop_eq_getElem_cons (by omega),List.drop_eq_getElem_cons (show p+1 < l.length by omega),List.drop_eq_getElem_cons (show p+1+1 < l.length by omega)]
 simp only [tb];rw [if_neg (by omega),if_neg (by omega)]
theorem hex_byte (x y:Int) (hx:0≤x∧x≤15) (hy:0≤y∧y≤15):(((x * 16+y).toNat.toUInt8).toNat:Int)=x * 16+y:=by
 have h:(x * 16+y).toNat < 256:=by omega
 simp [Nat.mod_eq_of_lt h];omega
theorem unqF_pos {f:Nat} {l:List UInt8} {o:List UInt8} {k:Nat} (h:unqF f l=some (o,k)):1≤k∧k≤l.length∧o.length < k:=by
 induction f generalizing l o k with
 | zero=>simp [unqF] at h
 | succ f ih =>
  cases l with
  | nil=>simp [unqF] at h
  | cons c r =>
   simp only [unqF] at h
   split at h
   ·cases h;simp
   ·cases ht:tb (c :: r) with
    | none=>rw [ht] at h;cases h
    | some x =>
     obtain ⟨b,m⟩:=x
     rw [ht] at h
     simp only at h
     have hp:=tb_pos ht
     cases hu:unqF f ((c :: r).drop m) with
     | none=>rw [hu] at h;cases h
     | some y =>
      obtain ⟨o',k'⟩:=y
      rw [hu] at h
      have:=ih hu
      rw [List.length_drop] at this
      cases h
      simp only [List.length_cons] at *
      omega
end Go.Proofs.YtabbahpalemlhaaGreatDoor
namespace Go.Proofs.YtabbahpalemlhaaGreatDoor
open Go.RowKit
theorem ret_bool {a b:Bool} (h:a=b):Ending.returned (.bool a)=.returned (.bool b):=by rw [h]
theorem ret_int {k:IntKind} {a b:Int} (h:a=b):Ending.returned (.int k a)=.returned (.int k b):=by rw [h]
set_option maxHeartbeats 400000 in
theorem isDigit_any (c:Int) (w:World) :
  Calls Tryz.prog 44 #[.int .u8 c] w fun e w'=>e=.returned (.bool (dig c))∧w'=w:=by
 go_enter Tryz.func44,Tryz.ntmps44
 go_wp2
 all_goals go_ret
 all_goals exact ⟨ret_bool (by unfold dig;rw [Bool.eq_iff_iff];simp;try omega),rfl⟩
set_option maxHeartbeats 400000 in
theorem l1Digit_any (c:Int) (w:World) :
  Calls Tryz.prog 28 #[.int .u8 c] w fun e w'=>e=.returned (.bool (dig c))∧w'=w:=by
 go_enter Tryz.func28,Tryz.ntmps28
 go_wp2
 all_goals go_ret
 all_goals exact ⟨ret_bool (by unfold dig;rw [Bool.eq_iff_iff];simp;try omega),rfl⟩
set_option maxHeartbeats 400000 in
theorem l1Begins_any (c:Int) (w:World) :
  Calls Tryz.prog 30 #[.int .u8 c] w fun e w'=>e=.returned (.bool (beg c))∧w'=w:=by
 go_enter Tryz.func30,Tryz.ntmps30
 go_wp2
 all_goals go_ret
 all_goals exact ⟨ret_bool (by unfold beg;rw [Bool.eq_iff_iff];simp;try omega),rfl⟩
set_option maxHeartbeats 400000 in
theorem l1Letter_any (c:Int) (w:World) :
  Calls Tryz.prog 31 #[.int .u8 c] w fun e w'=>e=.returned (.bool (let_ c))∧w'=w:=by
 cases hb:beg c <;> cases hd:dig c
 all_goals go_enter Tryz.func31,Tryz.ntmps31
 all_goals go_wp2_with (first
  | (go_at_call 30;refine (l1Begins_any _ _).mono ?_;rintro e w' ⟨rfl,rfl⟩)
  | (go_at_call 28;refine (l1Digit_any _ _).mono ?_;rintro e w' ⟨rfl,rfl⟩))
 all_goals go_ret
 all_goals exact ⟨ret_bool (by simp [let_,hb,hd]),rfl⟩
set_option maxHeartbeats 400000 in
theorem isName_any (c:Int) (w:World) :
  Calls Tryz.prog 46 #[.int .u8 c] w fun e w'=>e=.returned (.bool (let_ c))∧w'=w:=by
 go_enter Tryz.func46,Tryz.ntmps46
 go_wp2_with (first
  | (go_at_call 44;refine (isDigit_any _ _).mono ?_;rintro e w' ⟨rfl,rfl⟩))
 all_goals go_ret
 all_goals exact ⟨ret_bool (by unfold let_ beg;generalize dig c=d;cases d <;> rw [Bool.eq_iff_iff] <;> simp <;> try omega),rfl⟩
set_option maxHeartbeats 400000 in
theorem l1Hex_any (c:Int) (w:World) (h0:0≤c) (h1:c≤255) :
  Calls Tryz.prog 49 #[.int .u8 c] w fun e w'=>e=.returned (.int .i64 (hexv c))∧w'=w:=by
 go_enter Tryz.func49,Tryz.ntmps49
 go_wp2
 all_goals go_ret
 all_goals exact ⟨ret_int (by unfold hexv;split <;> (try split) <;> omega),rfl⟩
set_option maxHeartbeats 400000 in
theorem hexDigit_any (c:Int) (w:World) (h0:0≤c) (h1:c≤255) :
  Calls Tryz.prog 97 #[.int .u8 c] w fun e w'=>e=.returned (.int .i64 (hexv c))∧w'=w:=by
 cases hd:dig c
 all_goals unfold dig at hd
 all_goals simp at hd
 all_goals go_enter Tryz.func97,Tryz.ntmps97
 all_goals go_wp2
 all_goals go_ret
 all_goals exact ⟨ret_int (by unfold hexv;split <;> (try split) <;> omega),rfl⟩
set_option maxHeartbeats 400000 in
theorem nameSize_any (s:ByteArray) (w:World) (hs:s.size≤maxLen) :
  Calls Tryz.prog 65 #[.string s] w fun e w'=>e=.returned (.int .i64 (run letB s.data.toList))∧w'=w:=by
 unfold maxLen at hs
 go_enter Tryz.func65,Tryz.ntmps65
 go_wp2
 go_loop [3] (fun i=>∃ k:Nat,k≤s.size∧i=.int .i64 k∧k≤run letB s.data.toList) (fun i=>s.size - (intOf i).toNat)
 case atStart=>exact ⟨0,Nat.zero_le _,rfl,Nat.zero_le _⟩
 case round =>
  obtain ⟨k,hk,rfl,hr⟩:=hrel
  by_cases hlt:k < s.size
  ·have hl:k < s.data.toList.length:=by simpa using hlt
   have hg:s.data.toList[k]=s[k]:=rfl
   have HG:Hid (s.data.toList[k]=s[k]):=hg
   clear hg
   cases hp:let_ (s[k].toNat:Int)
   ·have HE:=run_stop letB _ k hr hl (by rw [HG.out];exact hp)
    have HE':Hid (run letB s.data.toList=k):=HE
    clear HE
    go_wp2_with (go_at_call 46;refine (isName_any _ _).mono ?_;rintro e w' ⟨rfl,rfl⟩)
    go_ret
    exact ⟨ret_int (by rw [HE'.out]),rfl⟩
   ·have HE:=run_step letB _ k hr hl (by rw [HG.out];exact hp)
    go_wp2_with (go_at_call 46;refine (isName_any _ _).mono ?_;rintro e w' ⟨rfl,rfl⟩)
    go_round
    case rel=>exact ⟨k+1,by omega,by go_num,HE⟩
    case measure=>simp [intOf];omega
  ·have HE:Hid (run letB s.data.toList=k):=by
    have:=run_le letB s.data.toList
    have e:s.data.toList.length=s.size:=by simp
    exact Nat.le_antisymm (by omega) hr
   go_wp2
   go_ret
   exact ⟨ret_int (by rw [HE.out]),rfl⟩
set_option maxHeartbeats 400000 in
theorem textByte_low (s:ByteArray) (w:World) (hp:0 < s.size) (h:(s[0].toNat:Int) < 32) :
  Calls Tryz.prog 85 #[.string s] w fun e w'=>e=.returned (.tuple #[.int .u8 0,.int .i64 0])∧w'=w:=by
 go_enter Tryz.func85,Tryz.ntmps85
 go_wp2
 go_ret2
 exact ⟨rfl,rfl⟩
set_option maxHeartbeats 400000 in
theorem textByte_high (s:ByteArray) (w:World) (hp:0 < s.size) (h:126 < (s[0].toNat:Int)) :
  Calls Tryz.prog 85 #[.string s] w fun e w'=>e=.returned (.tuple #[.int .u8 0,.int .i64 0])∧w'=w:=by
 have h':¬ (s[0].toNat:Int) < 32:=by omega
 go_enter Tryz.func85,Tryz.ntmps85
 go_wp2
 go_ret2
 exact ⟨rfl,rfl⟩
set_option maxHeartbeats 400000 in
theorem textByte_plain (s:ByteArray) (w:World) (hp:0 < s.size) (h:32≤(s[0].toNat:Int)) (h1:(s[0].toNat:Int)≤126) (h2:((s[0].toNat:Int) != 92)=true) :
  Calls Tryz.prog 85 #[.string s] w fun e w'=>e=.returned (.tuple #[.int .u8 s[0].toNat,.int .i64 1])∧w'=w:=by
 go_enter Tryz.func85,Tryz.ntmps85
 go_wp2
 go_ret2
 exact ⟨rfl,rfl⟩
set_option maxHeartbeats 400000 in
theorem textByte_short (s:ByteArray) (w:World) (hs:s.size≤maxLen) (hp:0 < s.size) (h:32≤(s[0].toNat:Int)) (h1:(s[0].toNat:Int)≤126) (h2:((s[0].toNat:Int) != 92)=false) (h3:s.size < 3) :
  Calls Tryz.prog 85 #[.string s] w fun e w'=>e=.returned (.tuple #[.int .u8 0,.int .i64 0])∧w'=w:=by
 unfold maxLen at hs
 go_enter Tryz.func85,Tryz.ntmps85
 go_wp2
 go_ret2
 exact ⟨rfl,rfl⟩
theorem byte_bd (c:UInt8):0≤(c.toNat:Int)∧(c.toNat:Int)≤255:=by have:=c.toNat_lt;omega
set_option maxHeartbeats 400000 in
theorem textByte_hex (s:ByteArray) (w:World) (hs:s.size≤maxLen) (hp:2 < s.size) (h:32≤(s[0].toNat:Int)) (h1:(s[0].toNat:Int)≤126) (h2:((s[0].toNat:Int) != 92)=false) :
  Calls Tryz.prog 85 #[.string s] w fun e w'=>e=.returned (if hexv s[1].toNat < 0∨hexv s[2].toNat < 0 then .tuple #[.int .u8 0,.int .i64 0] else .tuple #[.int .u8 (hexv s[1].toNat * 16+hexv s[2].toNat),.int .i64 3])∧∃ n,w'=w.drewN n:=by
 unfold maxLen at hs
 have hp1:(1:Int) < s.size:=by omega
 have hp2:(2:Int) < s.size:=by omega
 have b1:=byte_bd s[1]
 have b2:=byte_bd s[2]
 have x1:=hexv_le s[1].toNat
 have x2:=hexv_le s[2].toNat
 go_enter Tryz.func85,Tryz.ntmps85
 go_wp2_with fail
 go_quiet ((go_at_call 97;exact Calls.quiet_of_same (hexDigit_any _ _ (by omega) (by omega))))
 go_wp2
 all_goals go_ret2
 all_goals exact ⟨rfl,_,rfl⟩
end Go.Proofs.YtabbahpalemlhaaGreatDoor
