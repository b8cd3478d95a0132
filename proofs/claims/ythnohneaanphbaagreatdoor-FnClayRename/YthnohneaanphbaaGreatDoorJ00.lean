import Derived.Test.YthnohneaanphbaaGreatDoorChecked
import Derived.WalkKit
import Derived.WalkSpells
import Derived.WalkLawsBesides
import Derived.Deep.QuietTactic
import Derived.BigQuiet
import Derived.Lib.Bytealg
import Derived.Lib.Strings
import Derived.BigCall
namespace Go.Proofs.YthnohneaanphbaaGreatDoor
def dig (c:Int):Bool:=decide (48≤c) && decide (c≤57)
def beg (c:Int):Bool:=(decide (97≤c) && decide (c≤122)) || c == 95
def let_ (c:Int):Bool:=beg c || dig c
def hexv (c:Int):Int:=if 48≤c∧c≤57 then c - 48 else if 97≤c∧c≤102 then c - 87 else -1
def digB (c:UInt8):Bool:=dig c.toNat
def begB (c:UInt8):Bool:=beg c.toNat
def letB (c:UInt8):Bool:=let_ c.toNat
def run (p:UInt8→Bool) (l:List UInt8):Nat:=(l.takeWhile p).length
theorem run_le (p:UInt8→Bool) (l:List UInt8):run p l≤l.length:=by
 unfold run;induction l with
 | nil=>simp
 | cons a l ih=>by_cases h:p a <;> simp [h] <;> omega
theorem run_cons (p:UInt8→Bool) (a:UInt8) (l:List UInt8):run p (a :: l)=if p a=true then run p l+1 else 0:=by
 unfold run;by_cases h:p a <;> simp [h]
theorem run_all (p:UInt8→Bool) (l:List UInt8) (k:Nat) (hk:k≤run p l) (i:Nat) (hi:i < k) (hl:i < l.length):p l[i]=true:=by
 induction l generalizing k i with
 | nil=>simp at hl
 | cons a l ih =>
  rw [run_cons] at hk
  by_cases h:p a
  ·rw [if_pos h] at hk
   cases i with
   | zero=>exact h
   | succ i=>exact ih (k - 1) (by omega) i (by omega) (by simpa using hl)
  ·rw [if_neg h] at hk;omega
theorem run_step (p:UInt8→Bool) (l:List UInt8) (k:Nat) (hk:k≤run p l) (hl:k < l.length) (hp:p l[k]=true):k+1≤run p l:=by
 induction l generalizing k with
 | nil=>simp at hl
 | cons a l ih =>
  rw [run_cons] at hk ⊢
  cases k with
  | zero=>simp at hp;rw [if_pos hp];omega
  | succ k =>
   by_cases h:p a
   ·rw [if_pos h] at hk ⊢
    have:=ih k (by omega) (by simpa using hl) (by simpa using hp);omega
   ·rw [if_neg h] at hk;omega
theorem run_stop (p:UInt8→Bool) (l:List UInt8) (k:Nat) (hk:k≤run p l) (hl:k < l.length) (hp:p l[k]=false):run p l=k:=by
 apply Nat.le_antisymm _ hk
 apply Nat.le_of_not_lt;intro h
 have:=run_all p l (run p l) (Nat.le_refl _) k h hl
 rw [hp] at this;cases this
theorem hexv_le (c:Int):-1≤hexv c∧hexv c≤15:=by unfold hexv;split <;> (try split) <;> omega
def gapN:Bool→List UInt8→Nat
 | _,[]=>0
 | true,c :: r=>if c=10 then gapN false r+1 else gapN true r+1
 | false,c :: r=>if c=35 then gapN true r+1 else if c=32∨c=10 then gapN false r+1 else 0
theorem gapN_le (b:Bool) (l:List UInt8):gapN b l≤l.length:=by
 induction l generalizing b with
 | nil=>cases b <;> simp [gapN]
 | cons c r ih =>
  have h1:=ih true;have h2:=ih false
  cases b <;> unfold gapN <;> simp only [List.length_cons] <;> (repeat' split) <;> omega
theorem gapN_true_nl (r:List UInt8):gapN true (10 :: r)=gapN false (10 :: r):=by simp [gapN]
theorem gt_step (l:List UInt8) (m:Nat) (h:m < l.length) (hc:¬ l[m].toNat=10):gapN true (l.drop m)=gapN true (l.drop (m+1))+1:=by
 rw [List.drop_eq_getElem_cons h];simp only [gapN];rw [if_neg];intro e;rw [e] at hc;exact hc rfl
theorem gt_nl (l:List UInt8) (m:Nat) (h:m < l.length) (hc:l[m].toNat=10):gapN true (l.drop m)=gapN false (l.drop m):=by
 have e:l[m]=10:=UInt8.toNat_inj.1 hc
 rw [List.drop_eq_getElem_cons h,e,gapN_true_nl]
theorem g_end (b:Bool) (l:List UInt8) (m:Nat) (h:l.length≤m):gapN b (l.drop m)=0:=by
 rw [List.drop_of_length_le h];cases b <;> rfl
theorem gf_note (l:List UInt8) (m:Nat) (h:m < l.length) (hc:l[m].toNat=35):gapN false (l.drop m)=gapN true (l.drop m):=by
 have e:l[m]=35:=UInt8.toNat_inj.1 hc
 rw [List.drop_eq_getElem_cons h,e];simp [gapN]
theorem gf_blank (l:List UInt8) (m:Nat) (h:m < l.length) (hc:l[m].toNat=32∨l[m].toNat=10):gapN false (l.drop m)=gapN false (l.drop (m+1))+1:=by
 rw [List.drop_eq_getElem_cons h]
 rcases hc with hc | hc
 ·have e:l[m]=32:=UInt8.toNat_inj.1 hc
  rw [e];simp [gapN]
 ·have e:l[m]=10:=UInt8.toNat_inj.1 hc
  rw [e];simp [gapN]
theorem gf_stop (l:List UInt8) (m:Nat) (h:m < l.length) (h1:¬ l[m].toNat=35) (h2:¬ l[m].toNat=32) (h3:¬ l[m].toNat=10):gapN false (l.drop m)=0:=by
 rw [List.drop_eq_getElem_cons h];simp only [gapN]
 rw [if_neg (fun e=>h1 (by rw [e];rfl)),if_neg]
 rintro (e | e)
 ·exact h2 (by rw [e];rfl)
 ·exact h3 (by rw [e];rfl)
def nn (c:UInt8):Bool:=c != 10
def dval (l:List UInt8):Nat:=l.foldl (fun a c=>a * 10+(c.toNat - 48)) 0
theorem dval_snoc (l:List UInt8) (c:UInt8):dval (l ++ [c])=dval l * 10+(c.toNat - 48):=by simp [dval]
def tb:List UInt8→Option (UInt8 × Nat)
 | []=>none
 | c :: r=>if c.toNat < 32∨126 < c.toNat then none else if c.toNat≠92 then some (c,1) else
  match r with
  | a :: b :: _=>if hexv a.toNat < 0∨hexv b.toNat < 0 then none else some ((hexv a.toNat * 16+hexv b.toNat).toNat.toUInt8,3)
  | _=>none
def unqF:Nat→List UInt8→Option (List UInt8 × Nat)
 | 0,_=>none
 | _+1,[]=>none
 | f+1,c :: r=>if c.toNat=34 then some ([],1) else
  match tb (c :: r) with
  | none=>none
  | some (b,k)=>match unqF f ((c :: r).drop k) with
   | none=>none
   | some (o,m)=>some (b :: o,m+k)
theorem tb_pos {l:List UInt8} {b:UInt8} {k:Nat} (h:tb l=some (b,k)):1≤k∧k≤l.length:=by
 cases l with
 | nil=>simp [tb] at h
 | cons c r =>
  simp only [tb] at h
  split at h
  ·cases h
  ·split at h
   ·cases h;simp
   ·split at h
    ·split at h
     ·cases h
     ·cases h;simp
    ·cases h
def marks:List (List UInt8):=[[61,61],[33,61],[60,61],[62,61],[61,62],[40],[41],[91],[93],[123],[125],[44],[59],[58],[46],[61],[60],[62],[43],[45],[42],[47],[37]]
def words:List (List UInt8):=[[97,110,100],[100,101,102],[101,108,115,101],[101,109,105,116],[102,97,108,115,101],[102,110],[102,111,114],[104,97,115],[105,102],[105,110],[108,101,116],[108,111,97,100],[110,111,110,101],[110,111,116],[111,114],[116,104,101,110],[116,114,117,101]]
structure One where
 kind:Nat
 text:List UInt8
 n:Nat
 size:Nat
 code:Nat
def One.bad (c:Nat):One:=⟨0,[],0,0,c⟩
def numOne (l:List UInt8):One :=
 if run letB l≠run digB l∨(l.take 1=[48]∧1 < run digB l)∨9223372036854775808≤dval (l.take (run digB l)) then One.bad 3
 else ⟨3,[],dval (l.take (run digB l)),run digB l,0⟩
def nameOne (l:List UInt8):One :=
 if l.take (run letB l) ∈ words then ⟨2,l.take (run letB l),0,run letB l,0⟩
 else if 30 < run letB l then One.bad 5 else ⟨1,l.take (run letB l),0,run letB l,0⟩
def textOne (r:List UInt8):One :=
 match unqF (r.length+1) r with
 | none=>One.bad 4
 | some (o,k)=>if 1000 < o.length then One.bad 5 else ⟨4,o,0,k+1,0⟩
def markOne (l:List UInt8):One :=
 match marks.find? (fun m=>m.isPrefixOf l) with
 | none=>One.bad 2
 | some m=>⟨5,m,0,m.length,0⟩
def one:List UInt8→One
 | []=>One.bad 2
 | c :: r=>if c.toNat=34 then textOne r else if digB c=true then numOne (c :: r) else if letB c=true then nameOne (c :: r) else markOne (c :: r)
structure Tok where
 kind:Nat
 text:List UInt8
 n:Nat
 place:Nat
def scanA:Nat→List UInt8→Nat→List Tok × Option (Nat × Nat)
 | 0,_,_=>([],none)
 | f+1,l,p=>if l.length≤p then ([],none) else
  if (one (l.drop p)).code≠0 then ([],some ((one (l.drop p)).code,p)) else
   (⟨(one (l.drop p)).kind,(one (l.drop p)).text,(one (l.drop p)).n,p⟩ :: (scanA f l (p+(one (l.drop p)).size+gapN false (l.drop (p+(one (l.drop p)).size)))).1,
    (scanA f l (p+(one (l.drop p)).size+gapN false (l.drop (p+(one (l.drop p)).size)))).2)
def scanR (l:List UInt8):List Tok × Nat × Nat :=
 if 8000 < l.length then ([],1,0) else
  match scanA (l.length+1) l (gapN false l) with
  | (ts,none)=>(ts,0,0)
  | (_,some x)=>([],x)
theorem dig_let {c:UInt8} (h:digB c=true):letB c=true:=by
 unfold letB let_;unfold digB at h;rw [h];simp
theorem run_mono {p q:UInt8→Bool} (hpq:∀ c,p c=true→q c=true) (l:List UInt8):run p l≤run q l:=by
 induction l with
 | nil=>simp [run]
 | cons a l ih =>
  rw [run_cons,run_cons]
  by_cases h:p a=true
  ·rw [if_pos h,if_pos (hpq a h)];omega
  ·rw [if_neg h];exact Nat.zero_le _
theorem num_let (L:List UInt8) (k:Nat) (hd:run digB L=k) (hl:k < L.length):(letB L[k]=true ↔ run letB L≠k):=by
 have hm:=run_mono (fun c=>dig_let (c:=c)) L
 rw [hd] at hm
 constructor
 ·intro h;have:=run_step letB L k hm hl h;omega
 ·intro h
  cases hb:letB L[k]
  ·exact absurd (run_stop letB L k hm hl hb) h
  ·rfl
theorem num_end (L:List UInt8) (hd:run digB L=L.length):run letB L=L.length:=by
 have hm:=run_mono (fun c=>dig_let (c:=c)) L
 have:=run_le letB L;omega
theorem num_bad (L:List UInt8) (k:Nat) (hd:run digB L=k) (h:run letB L≠k∨(L.take 1=[48]∧1 < k)∨9223372036854775807 < dval (L.take k)):numOne L=One.bad 3:=by
 unfold numOne;rw [hd,if_pos]
 rcases h with h | h | h
 ·exact .inl h
 ·exact .inr (.inl h)
 ·exact .inr (.inr (by omega))
theorem num_good (L:List UInt8) (k:Nat) (hd:run digB L=k) (h1:run letB L=k) (h2:¬ (L.take 1=[48]∧1 < k)) (h3:dval (L.take k)≤9223372036854775807):numOne L=⟨3,[],dval (L.take k),k,0⟩:=by
 unfold numOne;rw [hd,if_neg]
 rintro (h | h | h)
 ·exact h h1
 ·exact h2 h
 ·omega
theorem dval_step (L:List UInt8) (k:Nat) (hl:k < L.length):dval (L.take (k+1))=dval (L.take k) * 10+(L[k].toNat - 48):=by
 rw [List.take_succ_eq_append_getElem hl,dval_snoc]
def unqAt (f:Nat) (l:List UInt8) (p:Nat) (acc:List UInt8):Option (List UInt8 × Nat):=(unqF f (l.drop p)).map fun x=>(acc ++ x.1,p+x.2)
theorem unqAt_end (f:Nat) (l:List UInt8) (p:Nat) (acc:List UInt8) (h:l.length≤p):unqAt f l p acc=none:=by
 unfold unqAt;rw [List.drop_of_length_le h];cases f <;> rfl
theorem unqAt_quote (f:Nat) (l:List UInt8) (p:Nat) (acc:List UInt8) (h:p < l.length) (hc:l[p].toNat=34):unqAt (f+1) l p acc=some (acc,p+1):=by
 unfold unqAt;rw [List.drop_eq_getElem_cons h];simp only [unqF];rw [if_pos hc];simp
theorem unqAt_bad (f:Nat) (l:List UInt8) (p:Nat) (acc:List UInt8) (h:p < l.length) (hc:¬ l[p].toNat=34) (ht:tb (l.drop p)=none):unqAt (f+1) l p acc=none:=by
 unfold unqAt;rw [List.drop_eq_getElem_cons h] at ht ⊢;simp only [unqF];rw [if_neg hc,ht];rfl
theorem unqAt_go (f:Nat) (l:List UInt8) (p:Nat) (acc:List UInt8) (h:p < l.length) (hc:¬ l[p].toNat=34) {b:UInt8} {m:Nat} (ht:tb (l.drop p)=some (b,m)) :
  unqAt (f+1) l p acc=unqAt f l (p+m) (acc ++ [b]):=by
 unfold unqAt
 have hd:(l.drop p).drop m=l.drop (p+m):=by rw [List.drop_drop]
 rw [← hd]
 rw [List.drop_eq_getElem_cons h] at ht ⊢
 generalize l[p]=c at *
 generalize l.drop (p+1)=r at *
 simp only [unqF];rw [if_neg hc,ht]
 cases hu:unqF f (List.drop m (c :: r)) with
 | none=>simp [hu]
 | some x=>simp [hu,List.append_assoc];omega
theorem tb_low (l:List UInt8) (p:Nat) (h:p < l.length) (hc:l[p].toNat < 32∨126 < l[p].toNat):tb (l.drop p)=none:=by
 rw [List.drop_eq_getElem_cons h];simp only [tb];rw [if_pos hc]
theorem tb_plain (l:List UInt8) (p:Nat) (h:p < l.length) (h1:32≤l[p].toNat) (h2:l[p].toNat≤126) (h3:¬ l[p].toNat=92):tb (l.drop p)=some (l[p],1):=by
 rw [List.drop_eq_getElem_cons h];simp only [tb];rw [if_neg (by omega),if_pos h3]
theorem tb_short (l:List UInt8) (p:Nat) (h:p < l.length) (h3:l[p].toNat=92) (hl:l.length≤p+2):tb (l.drop p)=none:=by
 rw [List.drop_eq_getElem_cons h];simp only [tb];rw [if_neg (by omega),if_neg (by omega)]
 have hlen:(l.drop (p+1)).length≤1:=by rw [List.length_drop];omega
 match hr:l.drop (p+1) with
 | []=>rfl
 | [_]=>rfl
 | _ :: _ :: _=>rw [hr] at hlen;simp at hlen
theorem tb_hex (l:List UInt8) (p:Nat) (h:p+2 < l.length) (h3:l[p].toNat=92) :
  tb (l.drop p)=if hexv l[p+1].toNat < 0∨hexv l[p+2].toNat < 0 then none else some ((hexv l[p+1].toNat * 16+hexv l[p+2].toNat).toNat.toUInt8,3):=by
 rw [List.drop_eq_getElem_cons (by omega),List.drop_eq_getElem_cons (show p+1 < l.length by omega),List.drop_eq_getElem_cons (show p+1+1 < l.length by omega)]
 simp only [tb];rw [if_neg (by omega),if_neg (by omega)]
theorem hex_byte (x y:Int) (hx:0≤x∧x≤15) (hy:0≤y∧y≤15):(((x * 16+y).toNat.toUInt8).toNat:Int)=x * 16+y:=by
 have h:(x * 16+y).toNat < 256:=by omega
 simp [Nat.mod_eq_of_lt h];omega
theorem unqF_pos {f:Nat} {l:List UInt8} {o:List UInt8} {k:Nat} (h:unqF f l=some (o,k)):1≤k∧k≤l.length∧o.length < k:=by
 induction f generalizing l o k with
 | zero=>simp [unqF] at h
 | succ f ih =>
  cases l with
  | nil=>simp [unqF] at h
  | cons c r =>
   simp only [unqF] at h
   split at h
   ·cases h;simp
   ·cases ht:tb (c :: r) with
    | none=>rw [ht] at h;cases h
    | some x =>
     obtain ⟨b,m⟩:=x
     rw [ht] at h
     simp only at h
     have hp:=tb_pos ht
     cases hu:unqF f ((c :: r).drop m) with
     | none=>rw [hu] at h;cases h
     | some y =>
      obtain ⟨o',k'⟩:=y
      rw [hu] at h
      have:=ih hu
      rw [List.length_drop] at this
      cases h
      simp only [List.length_cons] at *
      omega
end Go.Proofs.YthnohneaanphbaaGreatDoor
namespace Go.Proofs.YthnohneaanphbaaGreatDoor
open Go.RowKit
set_option maxRecDepth 20000
theorem ret_bool {a b:Bool} (h:a=b):Ending.returned (.bool a)=.returned (.bool b):=by rw [h]
theorem ret_int {k:IntKind} {a b:Int} (h:a=b):Ending.returned (.int k a)=.returned (.int k b):=by rw [h]
set_option maxHeartbeats 400000 in
theorem isDigit_any (c:Int) (w:World) :
  Calls Tryz.prog 71 #[.int .u8 c] w fun e w'=>e=.returned (.bool (dig c))∧w'=w:=by
 go_enter Tryz.func71,Tryz.ntmps71
 go_wp2
 all_goals go_ret
 all_goals exact ⟨ret_bool (by unfold dig;rw [Bool.eq_iff_iff];simp;try omega),rfl⟩
set_option maxHeartbeats 400000 in
theorem l1Digit_any (c:Int) (w:World) :
  Calls Tryz.prog 73 #[.int .u8 c] w fun e w'=>e=.returned (.bool (dig c))∧w'=w:=by
 go_enter Tryz.func73,Tryz.ntmps73
 go_wp2
 all_goals go_ret
 all_goals exact ⟨ret_bool (by unfold dig;rw [Bool.eq_iff_iff];simp;try omega),rfl⟩
set_option maxHeartbeats 400000 in
theorem l1Begins_any (c:Int) (w:World) :
  Calls Tryz.prog 44 #[.int .u8 c] w fun e w'=>e=.returned (.bool (beg c))∧w'=w:=by
 go_enter Tryz.func44,Tryz.ntmps44
 go_wp2
 all_goals go_ret
 all_goals exact ⟨ret_bool (by unfold beg;rw [Bool.eq_iff_iff];simp;try omega),rfl⟩
set_option maxHeartbeats 400000 in
theorem l1Letter_any (c:Int) (w:World) :
  Calls Tryz.prog 46 #[.int .u8 c] w fun e w'=>e=.returned (.bool (let_ c))∧w'=w:=by
 cases hb:beg c <;> cases hd:dig c
 all_goals go_enter Tryz.func46,Tryz.ntmps46
 all_goals go_wp2_with (first
  | (go_at_call 44;refine (l1Begins_any _ _).mono ?_;rintro e w' ⟨rfl,rfl⟩)
  | (go_at_call 73;refine (l1Digit_any _ _).mono ?_;rintro e w' ⟨rfl,rfl⟩))
 all_goals go_ret
 all_goals exact ⟨ret_bool (by simp [let_,hb,hd]),rfl⟩
set_option maxHeartbeats 400000 in
theorem isName_any (c:Int) (w:World) :
  Calls Tryz.prog 100 #[.int .u8 c] w fun e w'=>e=.returned (.bool (let_ c))∧w'=w:=by
 go_enter Tryz.func100,Tryz.ntmps100
 go_wp2_with (first
  | (go_at_call 71;refine (isDigit_any _ _).mono ?_;rintro e w' ⟨rfl,rfl⟩))
 all_goals go_ret
 all_goals exact ⟨ret_bool (by unfold let_ beg;generalize dig c=d;cases d <;> rw [Bool.eq_iff_iff] <;> simp <;> try omega),rfl⟩
set_option maxHeartbeats 400000 in
theorem nameSize_any (s:ByteArray) (w:World) (hs:s.size≤maxLen) :
  Calls Tryz.prog 70 #[.string s] w fun e w'=>e=.returned (.int .i64 (run letB s.data.toList))∧w'=w:=by
 unfold maxLen at hs
 go_enter Tryz.func70,Tryz.ntmps70
 go_wp2
 go_loop [3] (fun i=>∃ k:Nat,k≤s.size∧i=.int .i64 k∧k≤run letB s.data.toList) (fun i=>s.size - (intOf i).toNat)
 case atStart=>exact ⟨0,Nat.zero_le _,rfl,Nat.zero_le _⟩
 case round =>
  obtain ⟨k,hk,rfl,hr⟩:=hrel
  by_cases hlt:k < s.size
  ·have hl:k < s.data.toList.length:=by simpa using hlt
   have hg:s.data.toList[k]=s[k]:=rfl
   have HG:Hid (s.data.toList[k]=s[k]):=hg
   clear hg
   cases hp:let_ (s[k].toNat:Int)
   ·have HE:=run_stop letB _ k hr hl (by rw [HG.out];exact hp)
    have HE':Hid (run letB s.data.toList=k):=HE
    clear HE
    go_wp2_with (go_at_call 100;refine (isName_any _ _).mono ?_;rintro e w' ⟨rfl,rfl⟩)
    go_ret
    exact ⟨ret_int (by rw [HE'.out]),rfl⟩
   ·have HE:=run_step letB _ k hr hl (by rw [HG.out];exact hp)
    go_wp2_with (go_at_call 100;refine (isName_any _ _).mono ?_;rintro e w' ⟨rfl,rfl⟩)
    go_round
    case rel=>exact ⟨k+1,by omega,by go_num,HE⟩
    case measure=>simp [intOf];omega
  ·have HE:Hid (run letB s.data.toList=k):=by
    have:=run_le letB s.data.toList
    have e:s.data.toList.length=s.size:=by simp
    exact Nat.le_antisymm (by omega) hr
   go_wp2
   go_ret
   exact ⟨ret_int (by rw [HE.out]),rfl⟩
theorem byte_bd (c:UInt8):0≤(c.toNat:Int)∧(c.toNat:Int)≤255:=by have:=c.toNat_lt;omega
theorem head_eq (s:ByteArray) (hp:0 < s.size):s.data.toList=s[0] :: s.data.toList.tail:=by
 match s,hp with
 | ⟨⟨c :: r⟩⟩,_=>rfl
 | ⟨⟨[]⟩⟩,h=>exact absurd h (by decide)
theorem len_size (s:ByteArray):s.data.toList.length=s.size:=by simp
theorem notEmpty (s:ByteArray) (hp:0 < s.size):s.toList.isEmpty=false:=by
 rw [Lib.toList_data,head_eq s hp];rfl
theorem get_eq (s:ByteArray) (k:Nat) (h:k < s.size):s.data.toList[k]'(by rw [len_size];exact h)=s[k]:=rfl
theorem bytes_eq {a b:ByteArray} (h:(a.toList == b.toList)=true):a=b:=by
 rw [Lib.toList_data,Lib.toList_data,beq_iff_eq] at h
 exact ByteArray.ext (Array.toList_inj.1 h)
set_option maxHeartbeats 400000 in
theorem l1Words_any (w:World) :
  Calls Tryz.prog 45 #[] w fun e w'=>e=.returned (.slice (some ⟨w.heap.size,0,none⟩) 17 17)∧w'=w.alloc (.cells (words.map fun x=>Value.string ⟨x.toArray⟩).toArray 9):=by
 go_enter Tryz.func45,Tryz.ntmps45
 go_wp2
 go_ret
 exact ⟨rfl,rfl⟩
set_option maxHeartbeats 400000 in
theorem l1Has_any (b n:Nat) (s:ByteArray) (ss:Nat→ByteArray) (w:World) (hn:n≤100)
  (hc:∀ i,i < n→w.cell? ⟨b,i,none⟩=some (.string (ss i))) :
  Calls Tryz.prog 24 #[.slice (some ⟨b,0,none⟩) n n,.string s] w fun e w'=>(e=.returned (.bool true)∧(∃ i,i < n∧ss i=s)∨e=.returned (.bool false)∧(∀ i,i < n→¬ ss i=s))∧w'=w:=by
 go_enter Tryz.func24,Tryz.ntmps24
 go_wp2
 go_loop [5] (fun i=>∃ k:Nat,k≤n∧i=.int .i64 k∧∀ i,i < k→¬ ss i=s) (fun i=>n - (intOf i).toNat)
 case atStart=>exact ⟨0,Nat.zero_le _,rfl,fun i h=>absurd h (Nat.not_lt_zero _)⟩
 case round =>
  obtain ⟨k,hk,rfl,hr⟩:=hrel
  have HR:Hid (∀ i,i < k→¬ ss i=s):=hr
  clear hr
  by_cases hlt:k < n
  ·have hck:=hc k hlt
   have HC:Hid (∀ i,i < n→w.cell? ⟨b,i,none⟩=some (.string (ss i))):=hc
   clear hc
   cases hq:((ss k).toList == s.toList)
   ·have HN:Hid (¬ ss k=s):=fun e=>by rw [e] at hq;simp at hq
    go_wp2
    go_round
    case rel=>exact ⟨k+1,by omega,by go_num,fun i h=>by
     rcases Nat.lt_or_eq_of_le (Nat.lt_succ_iff.1 h) with h | h
     ·exact HR.out i h
     ·subst h;exact HN.out⟩
    case measure=>simp [intOf];omega
   ·have HN:Hid (ss k=s):=bytes_eq hq
    go_wp2
    go_ret
    exact ⟨.inl ⟨rfl,k,hlt,HN.out⟩,rfl⟩
  ·go_wp2
   go_ret
   exact ⟨.inr ⟨rfl,fun i h=>HR.out i (by omega)⟩,rfl⟩
def wordS (i:Nat):ByteArray:=⟨(words.getD i []).toArray⟩
theorem cell_new_row (w:World) (cs:Array Value) (t:TypeId) (i:Nat):(w.alloc (.cells cs t)).cell? ⟨w.heap.size,i,none⟩=cs[i]?:=by
 have h:=heap_alloc_new w (.cells cs t)
 unfold World.cell?
 rw [h];rfl
theorem wordS_cell (w:World) (i:Nat) (h:i < 17):(w.alloc (.cells (words.map fun x=>Value.string ⟨x.toArray⟩).toArray 9)).cell? ⟨w.heap.size,i,none⟩=some (.string (wordS i)):=by
 rw [cell_new_row]
 have hl:i < words.length:=h
 simp [wordS,hl]
theorem wordS_mem (t:List UInt8):(∃ i,i < 17∧wordS i=⟨t.toArray⟩) ↔ t ∈ words:=by
 constructor
 ·rintro ⟨i,h,e⟩
  have hl:i < words.length:=h
  have e2:words.getD i []=t:=by
   have:=congrArg (fun b:ByteArray=>b.data.toList) e
   simpa [wordS] using this
  rw [← e2]
  simp [hl]
 ·intro h
  obtain ⟨i,hl,e⟩:=List.getElem_of_mem h
  exact ⟨i,hl,by simp [wordS,hl,e]⟩
theorem l1Has_words (s:ByteArray) (w:World) (b:Nat) (hc:∀ i,i < 17→w.cell? ⟨b,i,none⟩=some (.string (wordS i))) :
  Calls Tryz.prog 24 #[.slice (some ⟨b,0,none⟩) 17 17,.string s] w fun e w'=>e=.returned (.bool (decide (s.data.toList ∈ words)))∧w'=w:=by
 refine (l1Has_any b 17 s wordS w (by omega) hc).mono ?_
 rintro e w' ⟨⟨rfl,h⟩ | ⟨rfl,h⟩,rfl⟩
 ·exact ⟨ret_bool (by have:=(wordS_mem s.data.toList).1 (by simpa using h);simp [this]),rfl⟩
 ·refine ⟨ret_bool ?_,rfl⟩
  have:¬ s.data.toList ∈ words:=fun hm=>by
   obtain ⟨i,hi,e⟩:=(wordS_mem s.data.toList).2 hm
   exact h i hi (by simpa using e)
  simp [this]
theorem hid {p:Prop} (h:p):Hid p:=h
theorem own_base {w:World} {B B' e size k:Nat} {v:Value} {xs:List Value} (h:w.ownsRow B e size v k xs) (hB:B'≤B):w.ownsRow B' e size v k xs:=by
 obtain ⟨h1,h2 | ⟨g,cap,cur,a,b,c⟩⟩:=h
 ·exact ⟨h1,.inl h2⟩
 ·exact ⟨h1,.inr ⟨g,cap,cur,a,Nat.le_trans hB b,c⟩⟩
theorem own_below {w w1:World} {B e size k:Nat} {v:Value} {xs:List Value} (h:w.ownsRow B e size v k xs) (hb:Below w.heap.size w w1):w1.ownsRow B e size v k xs:=by
 obtain ⟨h1,h2 | ⟨g,cap,cur,a,b,c,d⟩⟩:=h
 ·exact ⟨h1,.inl h2⟩
 ·refine ⟨h1,.inr ⟨g,cap,cur,a,b,?_,d⟩⟩
  have hg:g < w.heap.size:=(Array.getElem?_eq_some_iff.1 c).1
  rw [hb.block g hg];exact c
def wordE (n:Nat):Array MapEntry:=((List.range n).map fun i=>({ key:=.string (wordS i),val:=.int .i64 2,born:=i }:MapEntry)).toArray
theorem wordE_succ (n:Nat):wordE (n+1)=(wordE n).push { key:=.string (wordS n),val:=.int .i64 2,born:=n }:=by
 simp [wordE,List.range_succ]
theorem find_none (s:ByteArray) (es:List MapEntry) (i:Nat) (h:∀ e ∈ es,∃ t,e.key=.string t∧(s == t)=false):Instr.findNow .string (.string s) es i=some none:=by
 induction es generalizing i with
 | nil=>rfl
 | cons e es ih =>
  obtain ⟨t,ht,hne⟩:=h e (List.mem_cons_self ..)
  unfold Instr.findNow
  rw [ht]
  simp only [Instr.sameNow,hne]
  exact ih (i+1) fun x hx=>h x (List.mem_cons_of_mem _ hx)
theorem find_some (s:ByteArray) (es:List MapEntry) (i:Nat) (hs:∀ e ∈ es,(∃ t,e.key=.string t)∧e.val=.int .i64 2) (h:∃ e ∈ es,e.key=.string s):∃ j,Instr.findNow .string (.string s) es i=some (some (j,.int .i64 2)):=by
 induction es generalizing i with
 | nil=>obtain ⟨e,he,_⟩:=h;simp at he
 | cons e es ih =>
  obtain ⟨⟨t,ht⟩,hv⟩:=hs e (List.mem_cons_self ..)
  unfold Instr.findNow
  rw [ht]
  simp only [Instr.sameNow]
  cases hq:(s == t) with
  | true=>exact ⟨i,by simp [hv]⟩
  | false =>
   refine ih (i+1) (fun x hx=>hs x (List.mem_cons_of_mem _ hx)) ?_
   obtain ⟨x,hx,hk⟩:=h
   rcases List.mem_cons.1 hx with e2 | e2
   ·subst e2
    rw [ht] at hk
    cases hk
    rw [beq_toListBytes] at hq
    simp at hq
   ·exact ⟨x,e2,hk⟩
theorem wordE_mem (n:Nat) (e:MapEntry):e ∈ (wordE n).toList ↔ ∃ i,i < n∧e={ key:=.string (wordS i),val:=.int .i64 2,born:=i }:=by
 simp [wordE]
 constructor
 ·rintro ⟨i,hi,rfl⟩;exact ⟨i,hi,rfl⟩
 ·rintro ⟨i,hi,rfl⟩;exact ⟨i,hi,rfl⟩
theorem word_apart:∀ i,i < 17→∀ j,j < i→words.getD i []≠words.getD j []:=by decide
theorem wordS_apart (i:Nat) (hi:i < 17) (j:Nat) (hj:j < i):(wordS i == wordS j)=false:=by
 rw [beq_toListBytes,beq_eq_false_iff_ne]
 intro e
 exact word_apart i hi j hj (by rw [Lib.toList_data,Lib.toList_data] at e;simpa [wordS] using e)
theorem set_last {α:Type} (a:Array α) (x y:α):(a.push x).setIfInBounds a.size y=a.push y:=by
 apply Array.ext
 ·simp
 ·intro i h1 h2
  rw [Array.getElem_setIfInBounds (by simpa using h1),Array.getElem_push,Array.getElem_push]
  by_cases h:a.size=i
  ·subst h;simp
  ·rw [if_neg h]
   simp at h1
   rw [dif_pos (by omega),dif_pos (by omega)]
theorem word_ins (w:World) (i:Nat) (hi:i < 17) (s:ByteArray) (hs:s=wordS i) :
  (Instr.mapUpdate 76 (.map (some w.heap.size)) (.string s) (.int .i64 2)).run Tryz.prog (w.alloc (.map (wordE i) i))=.ok () (w.alloc (.map (wordE (i+1)) (i+1))):=by
 subst hs
 have hf:Instr.findNow .string (.string (wordS i)) (wordE i).toList 0=some none:=by
  refine find_none _ _ _ fun e he=>?_
  obtain ⟨j,hj,rfl⟩:=(wordE_mem i e).1 he
  exact ⟨_,rfl,wordS_apart i hi j hj⟩
 have hb:(w.alloc (.map (wordE i) i)).heap[w.heap.size]?=some (.map (wordE i) i):=heap_alloc_new w _
 have hc:∀ W,(Instr.checkKey false 10000 9 (.string (wordS i))).run Tryz.prog W=.ok () W:=fun W=>MapKept.run_checkKey (k:=.string (wordS i)) Tryz.underlying9 (by simp [MapKept.IsKey]) false 9999
 simp only [Instr.mapUpdate,Sem.run_bind,run_underlying Tryz.underlying76,MapKept.run_getObj_map hb,hc,MapKept.run_findKey Tryz.underlying9 hf,MapKept.run_setObj_map _ hb,Result.andThen]
 rw [wordE_succ]
 have e:((w.alloc (.map (wordE i) i)).heap.setIfInBounds w.heap.size (.map ((wordE i).push { key:=.string (wordS i),val:=.int .i64 2,born:=i }) (i+1)))=(w.alloc (.map ((wordE i).push { key:=.string (wordS i),val:=.int .i64 2,born:=i }) (i+1))).heap:=by
  exact set_last w.heap _ _
 rw [e];rfl
set_option maxRecDepth 20000 in
set_option maxHeartbeats 1000000 in
theorem clayWords_any (w:World) :
  Calls Tryz.prog 39 #[] w fun e w'=>e=.returned (.map (some w.heap.size))∧w'=w.alloc (.map (wordE 17) 17):=by
 have f:(Instr.makeMap 76 none).run Tryz.prog w=.ok (.map (some w.heap.size)) (w.alloc (.map (wordE 0) 0)):=rfl
 have f0:=word_ins w 0 (by decide) ⟨#[97,110,100]⟩ rfl
 have f1:=word_ins w 1 (by decide) ⟨#[100,101,102]⟩ rfl
 have f2:=word_ins w 2 (by decide) ⟨#[101,108,115,101]⟩ rfl
 have f3:=word_ins w 3 (by decide) ⟨#[101,109,105,116]⟩ rfl
 have f4:=word_ins w 4 (by decide) ⟨#[102,97,108,115,101]⟩ rfl
 have f5:=word_ins w 5 (by decide) ⟨#[102,110]⟩ rfl
 have f6:=word_ins w 6 (by decide) ⟨#[102,111,114]⟩ rfl
 have f7:=word_ins w 7 (by decide) ⟨#[104,97,115]⟩ rfl
 have f8:=word_ins w 8 (by decide) ⟨#[105,102]⟩ rfl
 have f9:=word_ins w 9 (by decide) ⟨#[105,110]⟩ rfl
 have f10:=word_ins w 10 (by decide) ⟨#[108,101,116]⟩ rfl
 have f11:=word_ins w 11 (by decide) ⟨#[108,111,97,100]⟩ rfl
 have f12:=word_ins w 12 (by decide) ⟨#[110,111,110,101]⟩ rfl
 have f13:=word_ins w 13 (by decide) ⟨#[110,111,116]⟩ rfl
 have f14:=word_ins w 14 (by decide) ⟨#[111,114]⟩ rfl
 have f15:=word_ins w 15 (by decide) ⟨#[116,104,101,110]⟩ rfl
 have f16:=word_ins w 16 (by decide) ⟨#[116,114,117,101]⟩ rfl
 go_enter Tryz.func39,Tryz.ntmps39
 go_wp2
 go_ret
 exact ⟨rfl,rfl⟩
theorem lookup_word (W:World) (r:Nat) (hb:W.heap[r]?=some (.map (wordE 17) 17)) (s:ByteArray) :
  (Instr.lookup 76 (.map (some r)) (.string s) true).run Tryz.prog W=.ok (.tuple #[.int .i64 (if s.data.toList ∈ words then 2 else 0),.bool (decide (s.data.toList ∈ words))]) W:=by
 have hc:∀ b W,(Instr.checkKey b 10000 9 (.string s)).run Tryz.prog W=.ok () W:=fun b W=>MapKept.run_checkKey (k:=.string s) Tryz.underlying9 (by simp [MapKept.IsKey]) b 9999
 by_cases hm:s.data.toList ∈ words
 ·obtain ⟨j,hf⟩:=find_some s (wordE 17).toList 0 (fun e he=>by
    obtain ⟨i,_,rfl⟩:=(wordE_mem 17 e).1 he
    exact ⟨⟨_,rfl⟩,rfl⟩) (by
    obtain ⟨i,hi,e⟩:=(wordS_mem s.data.toList).2 hm
    exact ⟨_,(wordE_mem 17 _).2 ⟨i,hi,rfl⟩,by simp [e]⟩)
  simp only [Instr.lookup,Sem.run_bind,run_underlying Tryz.underlying76,MapKept.run_getObj_map hb,hc,MapKept.run_findKey Tryz.underlying9 hf,Result.andThen,Sem.run_pure]
  simp [hm]
 ·have hf:Instr.findNow .string (.string s) (wordE 17).toList 0=some none:=by
   refine find_none _ _ _ fun e he=>?_
   obtain ⟨j,hj,rfl⟩:=(wordE_mem 17 e).1 he
   refine ⟨_,rfl,?_⟩
   rw [beq_toListBytes,beq_eq_false_iff_ne]
   intro e2
   exact hm ((wordS_mem s.data.toList).1 ⟨j,hj,by rw [Lib.toList_data,Lib.toList_data] at e2;rw [e2]⟩)
  simp only [Instr.lookup,Sem.run_bind,run_underlying Tryz.underlying76,MapKept.run_getObj_map hb,hc,MapKept.run_findKey Tryz.underlying9 hf,Result.andThen,Sem.run_pure,Tryz.zeroValue3]
  simp [hm]
end Go.Proofs.YthnohneaanphbaaGreatDoor
namespace Go.Proofs.YthnohneaanphbaaGreatDoor
structure Nd where
 kind:Int
 op:Int
 n:Int
 text:ByteArray
 kids:Int
def inR (x lo hi:Int):Bool:=decide (lo≤x) && decide (x≤hi)
def isE (k:Int):Bool:=inR k 1 16
def pkg_ (c:Int):Bool:=(decide (97≤c) && decide (c≤122)) || dig c || c == 95 || c == 45 || c == 46 || c == 47
def pkgB (c:UInt8):Bool:=pkg_ c.toNat
def PkgOk (s:ByteArray):Prop:=1≤s.size∧s.size≤30∧∀ i (h:i < s.size),pkgB s[i]=true
def NameOk (s:ByteArray):Prop:=∃ (h1:0 < s.size),s.size≤30∧begB s[0]=true∧¬ s.data.toList ∈ words∧∀ i (h:i < s.size),letB s[i]=true
def hasText (k:Int):Bool:=k == 4 || k == 5 || k == 11 || k == 14 || inR k 16 21 || k == 23
def PlainNd (x:Nd):Prop :=
 (hasText x.kind=true∨x.text.toList=[])∧(x.kind=2∨x.kind=3∨x.n=0)∧(x.kind=6∨x.kind=7∨x.op=0) ∧
 (x.kind=2→x.n=0∨x.n=1)∧(x.kind=3→0≤x.n)∧(x.kind=4∨x.kind=17→x.text.size≤1000)∧(x.kind=6→1≤x.op∧x.op≤2)∧(x.kind=7→1≤x.op∧x.op≤14) ∧
 (x.kind=23→PkgOk x.text)∧(hasText x.kind=true→¬ x.kind=4→¬ x.kind=17→¬ x.kind=23→NameOk x.text)
def Apart (m:Nat) (nd:Nat→Nd):Prop:=∀ i,i < m→∀ k,k < i→¬ (nd k).text=(nd i).text
def AllE (m:Nat) (nd:Nat→Nd):Prop:=∀ i,i < m→isE (nd i).kind=true
def KidsOk (kind:Int) (m:Nat) (nd:Nat→Nd):Prop :=
 ((kind=1∨kind=2∨kind=3∨kind=4∨kind=5)∧m=0) ∨
 ((kind=6∨kind=11∨kind=17∨kind=18∨kind=21∨kind=22)∧m=1∧AllE m nd) ∨
 ((kind=7∨kind=10∨kind=14)∧m=2∧AllE m nd) ∨
 (kind=13∧m=3∧AllE m nd) ∨
 (kind=16∧2≤m∧m≤3∧AllE m nd) ∨
 (kind=19∧m≤1∧AllE m nd) ∨
 (kind=8∧m≤200∧AllE m nd) ∨
 (kind=9∧m≤200∧(∀ i,i < m→(nd i).kind=17)∧Apart m nd) ∨
 (kind=12∧∃ f,1≤f∧f≤m∧m≤9∧AllE f nd∧(∀ i,f≤i→i < m→(nd i).kind=18)∧Apart (m - f) (fun i=>nd (f+i))) ∨
 ((kind=15∨kind=20)∧1≤m∧m≤9∧(∀ i,i+1 < m→(nd i).kind=19)∧isE (nd (m - 1)).kind=true) ∨
 (kind=23∧1≤m∧m≤200∧∀ i,i < m→(nd i).kind=5) ∨
 (kind=24∧m≤200∧∀ i,i < m→20≤(nd i).kind∧(nd i).kind≤23)
end Go.Proofs.YthnohneaanphbaaGreatDoor
