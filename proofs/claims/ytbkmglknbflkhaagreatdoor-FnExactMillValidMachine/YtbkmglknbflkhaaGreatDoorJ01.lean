import Derived.WalkKit
import Derived.Below
import Derived.Test.YtbkmglknbflkhaaGreatDoorProg
import Derived.WalkSpells
import Derived.WalkLawsBesides
import Derived.Deep.QuietTactic
import Derived.BigQuiet
import Derived.Lib.Bytealg
import Derived.Lib.Strings
import Derived.BigCall
import Derived.Shelf.Abstract
import Derived.Test.YtbkmglknbflkhaaGreatDoorChecked
namespace Go.Proofs.YtbkmglknbflkhaaGreatDoor
def dig (c:Int):Bool:=decide (48≤c) && decide (c≤57)
def beg (c:Int):Bool:=(decide (97≤c) && decide (c≤122)) || c == 95
def let_ (c:Int):Bool:=beg c || dig c
def hexv (c:Int):Int:=if 48≤c∧c≤57 then c - 48 else if 97≤c∧c≤102 then c - 87 else -1
def digB (c:UInt8):Bool:=dig c.toNat
def letB (c:UInt8):Bool:=let_ c.toNat
def run (p:UInt8→Bool) (l:List UInt8):Nat:=(l.takeWhile p).length
theorem run_le (p:UInt8→Bool) (l:List UInt8):run p l≤l.length:=by
 unfold run;induction l with
 | nil=>simp
 | cons a l ih=>by_cases h:p a <;> simp [h] <;> omega
theorem run_cons (p:UInt8→Bool) (a:UInt8) (l:List UInt8):run p (a :: l)=if p a=true then run p l+1 else 0:=by
 unfold run;by_cases h:p a <;> simp [h]
theorem run_all (p:UInt8→Bool) (l:List UInt8) (k:Nat) (hk:k≤run p l) (i:Nat) (hi:i < k) (hl:i < l.length):p l[i]=true:=by
 induction l generalizing k i with
 | nil=>simp at hl
 | cons a l ih =>
  rw [run_cons] at hk
  by_cases h:p a
  ·rw [if_pos h] at hk
   cases i with
   | zero=>exact h
   | succ i=>exact ih (k - 1) (by omega) i (by omega) (by simpa using hl)
  ·rw [if_neg h] at hk;omega
theorem run_step (p:UInt8→Bool) (l:List UInt8) (k:Nat) (hk:k≤run p l) (hl:k < l.length) (hp:p l[k]=true):k+1≤run p l:=by
 induction l generalizing k with
 | nil=>simp at hl
 | cons a l ih =>
  rw [run_cons] at hk ⊢
  cases k with
  | zero=>simp at hp;rw [if_pos hp];omega
  | succ k =>
   by_cases h:p a
   ·rw [if_pos h] at hk ⊢
    have:=ih k (by omega) (by simpa using hl) (by simpa using hp);omega
   ·rw [if_neg h] at hk;omega
theorem run_stop (p:UInt8→Bool) (l:List UInt8) (k:Nat) (hk:k≤run p l) (hl:k < l.length) (hp:p l[k]=false):run p l=k:=by
 apply Nat.le_antisymm _ hk
 apply Nat.le_of_not_lt;intro h
 have:=run_all p l (run p l) (Nat.le_refl _) k h hl
 rw [hp] at this;cases this
def dval (l:List UInt8):Nat:=l.foldl (fun a c=>a * 10+(c.toNat - 48)) 0
def tb:List UInt8→Option (UInt8 × Nat)
 | []=>none
 | c :: r=>if c.toNat < 32∨126 < c.toNat then none else if c.toNat≠92 then some (c,1) else
  match r with
  | a :: b :: _=>if hexv a.toNat < 0∨hexv b.toNat < 0 then none else some ((hexv a.toNat * 16+hexv b.toNat).toNat.toUInt8,3)
  | _=>none
def unqF:Nat→List UInt8→Option (List UInt8 × Nat)
 | 0,_=>none
 | _+1,[]=>none
 | f+1,c :: r=>if c.toNat=34 then some ([],1) else
  match tb (c :: r) with
  | none=>none
  | some (b,k)=>match unqF f ((c :: r).drop k) with
   | none=>none
   | some (o,m)=>some (b :: o,m+k)
def marks:List (List UInt8):=[[61,61],[33,61],[60,61],[62,61],[61,62],[40],[41],[91],[93],[123],[125],[44],[59],[58],[46],[61],[60],[62],[43],[45],[42],[47],[37]]
def words:List (List UInt8):=[[97,110,100],[100,101,102],[101,108,115,101],[101,109,105,116],[102,97,108,115,101],[102,110],[102,111,114],[104,97,115],[105,102],[105,110],[108,101,116],[108,111,97,100],[110,111,110,101],[110,111,116],[111,114],[116,104,101,110],[116,114,117,101]]
structure One where
 kind:Nat
 text:List UInt8
 n:Nat
 size:Nat
 code:Nat
def One.bad (c:Nat):One:=⟨0,[],0,0,c⟩
def numOne (l:List UInt8):One :=
 if run letB l≠run digB l∨(l.take 1=[48]∧1 < run digB l)∨9223372036854775808≤dval (l.take (run digB l)) then One.bad 3
 else ⟨3,[],dval (l.take (run digB l)),run digB l,0⟩
def nameOne (l:List UInt8):One :=
 if l.take (run letB l) ∈ words then ⟨2,l.take (run letB l),0,run letB l,0⟩
 else if 30 < run letB l then One.bad 5 else ⟨1,l.take (run letB l),0,run letB l,0⟩
def textOne (r:List UInt8):One :=
 match unqF (r.length+1) r with
 | none=>One.bad 4
 | some (o,k)=>if 1000 < o.length then One.bad 5 else ⟨4,o,0,k+1,0⟩
def markOne (l:List UInt8):One :=
 match marks.find? (fun m=>m.isPrefixOf l) with
 | none=>One.bad 2
 | some m=>⟨5,m,0,m.length,0⟩
def one:List UInt8→One
 | []=>One.bad 2
 | c :: r=>if c.toNat=34 then textOne r else if digB c=true then numOne (c :: r) else if letB c=true then nameOne (c :: r) else markOne (c :: r)
end Go.Proofs.YtbkmglknbflkhaaGreatDoor
namespace Go.Proofs.YtbkmglknbflkhaaGreatDoor.V
open Go.RowKit
set_option maxRecDepth 20000
def kT (t:Int):IntKind :=
 if t=3 then .u8 else if t=4 then .u16 else if t=5 then .u32 else if t=6 then .u64
 else if t=7 then .i8 else if t=8 then .i16 else if t=9 then .i32 else .i64
theorem kT3:kT 3=.u8:=rfl
theorem kT4:kT 4=.u16:=rfl
theorem kT5:kT 5=.u32:=rfl
theorem kT6:kT 6=.u64:=rfl
theorem kT7:kT 7=.i8:=rfl
theorem kT8:kT 8=.i16:=rfl
theorem kT9:kT 9=.i32:=rfl
theorem kT10:kT 10=.i64:=rfl
def intoK (K:IntKind) (n:Int):Int:=IntKind.i64.wrap (K.wrap n)
def into (t n:Int):Int:=intoK (kT t) n
theorem bits_dvd (K:IntKind):(2 ^ K.bits:Int) ∣ 2 ^ 64:=by
 cases K <;> (simp only [IntKind.bits];decide)
theorem wrap_emod (K:IntKind) (n:Int):K.wrap n % 2 ^ K.bits=n % 2 ^ K.bits:=by
 cases K <;> simp [IntKind.wrap,IntKind.bits,IntKind.signed] <;> (try split) <;> omega
theorem wrap_congr (K:IntKind) {n m:Int} (h:n % 2 ^ K.bits=m % 2 ^ K.bits):K.wrap n=K.wrap m:=by
 unfold IntKind.wrap
 rw [h]
theorem emod_down (K:IntKind) {n m:Int} (h:n % 2 ^ 64=m % 2 ^ 64):n % 2 ^ K.bits=m % 2 ^ K.bits:=by
 have h2:n % 2 ^ 64 % 2 ^ K.bits=m % 2 ^ 64 % 2 ^ K.bits:=by rw [h]
 rwa [Int.emod_emod_of_dvd _ (bits_dvd K),Int.emod_emod_of_dvd _ (bits_dvd K)] at h2
theorem u64_emod (K:IntKind) (n:Int):IntKind.u64.wrap n % 2 ^ K.bits=n % 2 ^ K.bits:=emod_down K (wrap_emod .u64 n)
theorem intoK_congr (K:IntKind) {n m:Int} (h:n % 2 ^ K.bits=m % 2 ^ K.bits):intoK K n=intoK K m:=by
 unfold intoK;rw [wrap_congr K h]
theorem intoK_u64 (K:IntKind) (n:Int):intoK K (IntKind.u64.wrap n)=intoK K n:=intoK_congr K (u64_emod K n)
end Go.Proofs.YtbkmglknbflkhaaGreatDoor.V
namespace Go.Proofs.YtbkmglknbflkhaaGreatDoor
end Go.Proofs.YtbkmglknbflkhaaGreatDoor
namespace Go.Proofs.YtbkmglknbflkhaaGreatDoor.V
open Go.RowKit Go.Shelf
set_option maxRecDepth 20000
theorem ret_bool {a b:Bool} (h:a=b):Ending.returned (.bool a)=.returned (.bool b):=by rw [h]
theorem ret_int {k:IntKind} {a b:Int} (h:a=b):Ending.returned (.int k a)=.returned (.int k b):=by rw [h]
theorem hid {p:Prop} (h:p):Hid p:=h
set_option maxHeartbeats 400000 in
theorem l10Integer_any (t:Int) (w:World) :
  Calls Tryz.prog 111 #[.int .i64 t] w fun e w'=>e=.returned (.bool (decide (3≤t) && decide (t≤10)))∧w'=w:=by
 go_enter Tryz.func111,Tryz.ntmps111
 go_wp2
 all_goals go_ret
 all_goals exact ⟨ret_bool (by rw [Bool.eq_iff_iff];simp;try omega),rfl⟩
set_option maxHeartbeats 400000 in
theorem millIsInteger_any (t:Int) (w:World) :
  Calls Tryz.prog 146 #[.int .i64 t] w fun e w'=>e=.returned (.bool (decide (3≤t) && decide (t≤10)))∧w'=w:=by
 go_enter Tryz.func146,Tryz.ntmps146
 go_wp2
 all_goals go_ret
 all_goals exact ⟨ret_bool (by rw [Bool.eq_iff_iff];simp;try omega),rfl⟩
set_option maxHeartbeats 400000 in
theorem l10Signed_any (t:Int) (w:World) :
  Calls Tryz.prog 134 #[.int .i64 t] w fun e w'=>e=.returned (.bool (decide (7≤t) && decide (t≤10)))∧w'=w:=by
 go_enter Tryz.func134,Tryz.ntmps134
 go_wp2
 all_goals go_ret
 all_goals exact ⟨ret_bool (by rw [Bool.eq_iff_iff];simp;try omega),rfl⟩
theorem typ8 {t:Int} (h1:3≤t) (h2:t≤10):t=3∨t=4∨t=5∨t=6∨t=7∨t=8∨t=9∨t=10:=by omega
set_option maxHeartbeats 400000 in
theorem l10Bits_any (t:Int) (h1:3≤t) (h2:t≤10) (w:World) :
  Calls Tryz.prog 133 #[.int .i64 t] w fun e w'=>e=.returned (.int .i64 ((kT t).bits:Nat))∧w'=w:=by
 obtain rfl | rfl | rfl | rfl | rfl | rfl | rfl | rfl:=typ8 h1 h2
 all_goals go_enter Tryz.func133,Tryz.ntmps133
 all_goals go_wp2
 all_goals go_ret
 all_goals exact ⟨rfl,rfl⟩
set_option maxHeartbeats 1000000 in
theorem l13Into_any (t x:Int) (h1:3≤t) (h2:t≤10) (hx0:0≤x) (hx:x≤18446744073709551615) (w:World) :
  Calls Tryz.prog 112 #[.int .i64 t,.int .u64 x] w fun e w'=>e=.returned (.int .i64 (into t x))∧w'=w:=by
 obtain rfl | rfl | rfl | rfl | rfl | rfl | rfl | rfl:=typ8 h1 h2
 all_goals clear h1 h2
 all_goals go_enter Tryz.func112,Tryz.ntmps112
 all_goals go_wp2_with (first
  | (go_at_call 133;refine (l10Bits_any _ (by decide) (by decide) _).mono ?_;rintro e w' ⟨rfl,rfl⟩;simp only [kT3,kT4,kT5,kT6,kT7,kT8,kT9,kT10,IntKind.bits])
  | (go_at_call 134;refine (l10Signed_any _ _).mono ?_;rintro e w' ⟨rfl,rfl⟩;simp)
  | fail)
 all_goals go_ret
 all_goals exact ⟨ret_int (by simp [into,intoK,kT3,kT4,kT5,kT6,kT7,kT8,kT9,kT10,IntKind.wrap,IntKind.bits,IntKind.signed,wrap64];try omega),rfl⟩
end Go.Proofs.YtbkmglknbflkhaaGreatDoor.V
namespace Go.Proofs.YtbkmglknbflkhaaGreatDoor
def mlt (c:Int):Bool:=decide (97≤c) && decide (c≤122)
def mltB (c:UInt8):Bool:=mlt c.toNat
def tws:List (List UInt8):=[ [98,111,111,108],[116,101,120,116],[117,56],[117,49,54],[117,51,50],[117,54,52],[105,56],[105,49,54],[105,51,50],[105,54,52] ]
def pws:List (List UInt8):=[ [102,110],[108,101,116],[105,102],[101,108,115,101],[119,104,105,108,101],[98,114,101,97,107],[99,111,110,116,105,110,117,101],[114,101,116,117,114,110],[102,97,105,108],[119,114,105,116,101],[115,97,121],[116,114,117,101],[102,97,108,115,101] ]
def bws:List (List UInt8):=[ [114,101,97,100],[104,97,115],[108,105,115,116],[116,111,111,108],[97,114,103],[108,101,110],[97,116],[99,117,116],[102,105,110,100],[99,104,114],[100,101,99],[110,117,109] ]
def mws:List (List UInt8):=tws ++ pws ++ bws
def mtype (x:List UInt8):Nat:=if x ∈ tws then tws.idxOf x+1 else 0
def tw (i:Nat):List UInt8:=tws.getD i []
theorem mtype_tw (i:Nat) (h:i < 10):mtype (tw i)=i+1:=by
 have:∀ j:Fin 10,mtype (tw j.1)=j.1+1:=by decide
 exact this ⟨i,h⟩
theorem mem_get (xs:List (List UInt8)) (t:List UInt8):t ∈ xs ↔ ∃ i,i < xs.length∧xs.getD i []=t:=by
 constructor
 ·intro h
  obtain ⟨i,hl,e⟩:=List.getElem_of_mem h
  exact ⟨i,hl,by simp [hl,e]⟩
 ·rintro ⟨i,h,e⟩
  rw [← e];simp [h]
theorem mtype_none (x:List UInt8) (h:∀ i,i < 10→tw i≠x):mtype x=0:=by
 unfold mtype;rw [if_neg]
 intro hm
 obtain ⟨i,hi,e⟩:=(mem_get tws x).1 hm
 exact h i hi e
theorem mtype_pos (x:List UInt8):mtype x≠0 ↔ x ∈ tws:=by
 unfold mtype;split
 ·rename_i h;exact ⟨fun _=>h,fun _=>by omega⟩
 ·rename_i h;exact ⟨fun e=>absurd rfl e,fun e=>absurd e h⟩
structure MOne where
 kind:Nat
 text:List UInt8
 ty:Nat
 n:Int
 size:Nat
 code:Nat
def MOne.bad (c:Nat):MOne:=⟨0,[],0,0,0,c⟩
end Go.Proofs.YtbkmglknbflkhaaGreatDoor
namespace Go.Proofs.YtbkmglknbflkhaaGreatDoor.Q
def NameOk (s:ByteArray):Prop:=∃ (h1:0 < s.size),s.size≤30∧mltB s[0]=true∧¬ s.data.toList ∈ mws∧∀ i (h:i < s.size),letB s[i]=true
end Go.Proofs.YtbkmglknbflkhaaGreatDoor.Q
namespace Go.Proofs.YtbkmglknbflkhaaGreatDoor.Q
open Go.RowKit Go.Shelf
set_option maxRecDepth 20000
theorem ret_bool {a b:Bool} (h:a=b):Ending.returned (.bool a)=.returned (.bool b):=by rw [h]
theorem ret_int {k:IntKind} {a b:Int} (h:a=b):Ending.returned (.int k a)=.returned (.int k b):=by rw [h]
theorem head_eq (s:ByteArray) (hp:0 < s.size):s.data.toList=s[0] :: s.data.toList.tail:=by
 match s,hp with
 | ⟨⟨c :: r⟩⟩,_=>rfl
 | ⟨⟨[]⟩⟩,h=>exact absurd h (by decide)
theorem len_size (s:ByteArray):s.data.toList.length=s.size:=by simp
theorem notEmpty (s:ByteArray) (hp:0 < s.size):s.toList.isEmpty=false:=by
 rw [Lib.toList_data,head_eq s hp];rfl
theorem get_eq (s:ByteArray) (k:Nat) (h:k < s.size):s.data.toList[k]'(by rw [len_size];exact h)=s[k]:=rfl
theorem bytes_eq {a b:ByteArray} (h:(a.toList == b.toList)=true):a=b:=by
 rw [Lib.toList_data,Lib.toList_data,beq_iff_eq] at h
 exact ByteArray.ext (Array.toList_inj.1 h)
theorem cell_new_row (w:World) (cs:Array Value) (t:TypeId) (i:Nat):(w.alloc (.cells cs t)).cell? ⟨w.heap.size,i,none⟩=cs[i]?:=by
 have h:=heap_alloc_new w (.cells cs t)
 unfold World.cell?
 rw [h];rfl
theorem hid {p:Prop} (h:p):Hid p:=h
theorem own_base {w:World} {B B' e size k:Nat} {v:Value} {xs:List Value} (h:w.ownsRow B e size v k xs) (hB:B'≤B):w.ownsRow B' e size v k xs:=by
 obtain ⟨h1,h2 | ⟨g,cap,cur,a,b,c⟩⟩:=h
 ·exact ⟨h1,.inl h2⟩
 ·exact ⟨h1,.inr ⟨g,cap,cur,a,Nat.le_trans hB b,c⟩⟩
theorem find_none (s:ByteArray) (es:List MapEntry) (i:Nat) (h:∀ e ∈ es,∃ t,e.key=.string t∧(s == t)=false):Instr.findNow .string (.string s) es i=some none:=by
 induction es generalizing i with
 | nil=>rfl
 | cons e es ih =>
  obtain ⟨t,ht,hne⟩:=h e (List.mem_cons_self ..)
  unfold Instr.findNow
  rw [ht]
  simp only [Instr.sameNow,hne]
  exact ih (i+1) fun x hx=>h x (List.mem_cons_of_mem _ hx)
theorem set_last {α:Type} (a:Array α) (x y:α):(a.push x).setIfInBounds a.size y=a.push y:=by
 apply Array.ext
 ·simp
 ·intro i h1 h2
  rw [Array.getElem_setIfInBounds (by simpa using h1),Array.getElem_push,Array.getElem_push]
  by_cases h:a.size=i
  ·subst h;simp
  ·rw [if_neg h]
   simp at h1
   rw [dif_pos (by omega),dif_pos (by omega)]
theorem let_mlt (c:Int):let_ c=(mlt c || dig c || c == 95):=by
 unfold let_ beg mlt;generalize dig c=d;cases d <;> rw [Bool.eq_iff_iff] <;> simp
theorem str_eq (a:List UInt8) (s:ByteArray):((⟨a.toArray⟩:ByteArray).toList == s.toList)=decide (a=s.data.toList):=by
 rw [Lib.toList_data,Lib.toList_data,Bool.eq_iff_iff];simp
theorem not_mem_get (xs:List (List UInt8)) (t:List UInt8) (h:∀ i,i < xs.length→xs.getD i []≠t):¬ t ∈ xs:=fun hm=>by
 obtain ⟨i,hi,e⟩:=(mem_get xs t).1 hm
 exact h i hi e
theorem mem_mws (x:List UInt8):x ∈ mws ↔ x ∈ tws∨x ∈ pws∨x ∈ bws:=by
 unfold mws;simp only [List.mem_append]
 constructor
 ·rintro ((h | h) | h)
  ·exact .inl h
  ·exact .inr (.inl h)
  ·exact .inr (.inr h)
 ·rintro (h | h | h)
  ·exact .inl (.inl h)
  ·exact .inl (.inr h)
  ·exact .inr h
def Says (e:Ending) (P:Prop):Prop:=∃ b,e=.returned (.bool b)∧(b=true ↔ P)
theorem says_t {P:Prop} (h:P):Says (.returned (.bool true)) P:=⟨true,rfl,by simp [h]⟩
theorem says_f {P:Prop} (h:¬ P):Says (.returned (.bool false)) P:=⟨false,rfl,by simp [h]⟩
theorem Says.get {e:Ending} {P:Prop} (h:Says e P):e=.returned (.bool true)∧P∨e=.returned (.bool false)∧¬ P:=by
 obtain ⟨b,rfl,hb⟩:=h
 cases b
 ·exact .inr ⟨rfl,fun h=>by simp [h] at hb⟩
 ·exact .inl ⟨rfl,hb.1 rfl⟩
theorem below_drewN {B:Nat} {w w':World} (h:Below B w w') (n:Nat):Below B w (w'.drewN n):=by
 induction n with
 | zero=>exact h
 | succ n ih=>exact ih.drew
theorem Says.pos {e:Ending} {P:Prop} (h:Says e P) (hp:P):e=.returned (.bool true):=by
 rcases h.get with ⟨h1,_⟩ | ⟨_,h2⟩
 ·exact h1
 ·exact absurd hp h2
theorem Says.neg {e:Ending} {P:Prop} (h:Says e P) (hp:¬ P):e=.returned (.bool false):=by
 rcases h.get with ⟨_,h2⟩ | ⟨h1,_⟩
 ·exact absurd h2 hp
 ·exact h1
theorem Says.of {e:Ending} {P Q:Prop} (h:Says e P) (hq:P ↔ Q):Says e Q:=by
 obtain ⟨b,h1,h2⟩:=h
 exact ⟨b,h1,h2.trans hq⟩
end Go.Proofs.YtbkmglknbflkhaaGreatDoor.Q
