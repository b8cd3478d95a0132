import Derived.Test.YtbkmglknbflkhaaGreatDoorProg
import Derived.Test.YtbkmglknbflkhaaGreatDoorChecked
import Derived.WalkKit
import Derived.WalkSpells
import Derived.WalkLawsBesides
import Derived.OwnWalk
import Derived.Deep.QuietTactic
import Derived.BigQuiet
import Derived.Lib.Bytealg
import Derived.Lib.Strings
import Derived.BigCall
namespace Go.Proofs.YtbkmglknbflkhaaGreatDoor.C
structure Sh where
 st:Nat
 sl:List Int
 sk:List Int
deriving DecidableEq
def bot:Sh:=⟨0,[],[]⟩
def top:Sh:=⟨2,[],[]⟩
def OkSh (S:Nat) (s:Sh):Prop:=s=bot∨s=top∨(s.st=1∧s.sl.length=S∧(∀ x ∈ s.sl,0≤x∧x≤10)∧(∀ x ∈ s.sk,1≤x∧x≤10)∧s.sk.length≤600)
def slLe (a b:List Int):Prop:=a.length=b.length∧∀ i,i < a.length→b.getD i 0=a.getD i 0∨b.getD i 0=0
def le (a b:Sh):Prop:=a.st=0∨b.st=2∨(a.st=1∧b.st=1∧a.sk=b.sk∧slLe a.sl b.sl)
def slJoin (a b:List Int):List Int:=List.zipWith (fun x y=>if x=y then x else 0) a b
def join (a b:Sh):Sh:=if a.st=0 then b else if a.st=2∨b.st=2∨¬ a.sk=b.sk then top else ⟨1,slJoin a.sl b.sl,a.sk⟩
theorem slJoin_length (a b:List Int) (h:a.length=b.length):(slJoin a b).length=a.length:=by simp [slJoin,h]
theorem slJoin_get (a b:List Int) (h:a.length=b.length) (i:Nat) (hi:i < a.length):(slJoin a b).getD i 0=if a.getD i 0=b.getD i 0 then a.getD i 0 else 0:=by
 have hb:i < b.length:=by omega
 unfold slJoin
 rw [List.getD_eq_getElem?_getD,List.getElem?_zipWith,List.getD_eq_getElem?_getD,List.getD_eq_getElem?_getD,List.getElem?_eq_getElem hi,List.getElem?_eq_getElem hb]
 rfl
theorem slLe_refl (a:List Int):slLe a a:=⟨rfl,fun _ _=>.inl rfl⟩
theorem slLe_trans {a b c:List Int} (h:slLe a b) (k:slLe b c):slLe a c:=by
 refine ⟨h.1.trans k.1,fun i hi=>?_⟩
 rcases k.2 i (by rw [← h.1];exact hi) with e | e
 ·rw [e];exact h.2 i hi
 ·exact .inr e
theorem slLe_antisymm {a b:List Int} (h:slLe a b) (k:slLe b a):a=b:=by
 apply List.ext_getElem h.1
 intro i h1 h2
 have x:=h.2 i h1
 have y:=k.2 i h2
 simp only [List.getD_eq_getElem?_getD,List.getElem?_eq_getElem h1,List.getElem?_eq_getElem h2,Option.getD_some] at x y
 rcases x with e | e
 ·exact e.symm
 ·rcases y with f | f
  ·exact f
  ·rw [e,f]
theorem le_refl {S:Nat} {a:Sh} (h:OkSh S a):le a a:=by
 rcases h with rfl | rfl | ⟨h,_⟩
 ·exact .inl rfl
 ·exact .inr (.inl rfl)
 ·exact .inr (.inr ⟨h,h,rfl,slLe_refl _⟩)
theorem le_trans {a b c:Sh} (h:le a b) (k:le b c):le a c:=by
 rcases h with h | h | ⟨h1,h2,h3,h4⟩
 ·exact .inl h
 ·rcases k with k | k | ⟨k1,_⟩
  ·omega
  ·exact .inr (.inl k)
  ·omega
 ·rcases k with k | k | ⟨k1,k2,k3,k4⟩
  ·omega
  ·exact .inr (.inl k)
  ·exact .inr (.inr ⟨h1,k2,h3.trans k3,slLe_trans h4 k4⟩)
theorem le_antisymm {S:Nat} {a b:Sh} (ha:OkSh S a) (hb:OkSh S b) (h:le a b) (k:le b a):a=b:=by
 rcases ha with rfl | rfl | ⟨a1,_⟩
 ·rcases hb with rfl | rfl | ⟨b1,_⟩
  ·rfl
  ·rcases k with k | k | ⟨k,_⟩ <;> simp [bot,top] at k
  ·rcases k with k | k | ⟨_,k,_⟩
   ·omega
   ·simp [bot] at k
   ·simp [bot] at k
 ·rcases hb with rfl | rfl | ⟨b1,_⟩
  ·rcases h with k | k | ⟨k,_⟩ <;> simp [bot,top] at k
  ·rfl
  ·rcases h with h | h | ⟨h,_⟩
   ·simp [top] at h
   ·omega
   ·simp [top] at h
 ·rcases hb with rfl | rfl | ⟨b1,_⟩
  ·rcases h with h | h | ⟨_,h,_⟩
   ·omega
   ·simp [bot] at h
   ·simp [bot] at h
  ·rcases k with k | k | ⟨k,_⟩
   ·simp [top] at k
   ·omega
   ·simp [top] at k
  ·rcases h with h | h | ⟨_,_,h3,h4⟩
   ·omega
   ·omega
   ·rcases k with k | k | ⟨_,_,_,k4⟩
    ·omega
    ·omega
    ·obtain ⟨s1,l1,k1⟩:=a
     obtain ⟨s2,l2,k2⟩:=b
     simp only at a1 b1 h3 h4 k4
     rw [a1,b1,h3,slLe_antisymm h4 k4]
theorem join_ok {S:Nat} {a b:Sh} (ha:OkSh S a) (hb:OkSh S b) (hb0:b.st≠0):OkSh S (join a b):=by
 unfold join
 split
 ·exact hb
 ·split
  ·exact .inr (.inl rfl)
  ·rename_i h1 h2
   rcases ha with rfl | rfl | ⟨_,a2,a3,a4,a5⟩
   ·exact absurd rfl h1
   ·exact absurd (.inl rfl) h2
   ·rcases hb with rfl | rfl | ⟨_,b2,b3,_⟩
    ·exact absurd rfl hb0
    ·exact absurd (.inr (.inl rfl)) h2
    ·refine .inr (.inr ⟨rfl,by rw [slJoin_length _ _ (by omega)];exact a2,fun x hx=>?_,a4,a5⟩)
     obtain ⟨i,hi,rfl⟩:=List.getElem_of_mem hx
     have hi2:i < a.sl.length:=by rw [← slJoin_length a.sl b.sl (by omega)];exact hi
     have e:=slJoin_get a.sl b.sl (by omega) i hi2
     rw [List.getD_eq_getElem?_getD,List.getElem?_eq_getElem hi,Option.getD_some] at e
     rw [e]
     split
     ·have:a.sl.getD i 0 ∈ a.sl:=by rw [List.getD_eq_getElem?_getD,List.getElem?_eq_getElem hi2];exact List.getElem_mem hi2
      exact a3 _ this
     ·omega
theorem le_join_left {S:Nat} {a b:Sh} (ha:OkSh S a) (hb:OkSh S b) (hb0:b.st≠0):le a (join a b):=by
 unfold join
 split
 ·rename_i h;exact .inl h
 ·split
  ·exact .inr (.inl rfl)
  ·rename_i h1 h2
   rcases ha with rfl | rfl | ⟨a1,a2,_⟩
   ·exact absurd rfl h1
   ·exact absurd (.inl rfl) h2
   ·rcases hb with rfl | rfl | ⟨_,b2,_⟩
    ·exact absurd rfl hb0
    ·exact absurd (.inr (.inl rfl)) h2
    ·refine .inr (.inr ⟨a1,rfl,rfl,by rw [slJoin_length _ _ (by omega)],fun i hi=>?_⟩)
     rw [slJoin_get _ _ (by omega) i hi]
     split
     ·exact .inl rfl
     ·exact .inr rfl
theorem le_join_right {S:Nat} {a b:Sh} (ha:OkSh S a) (hb:OkSh S b) (hb0:b.st≠0):le b (join a b):=by
 unfold join
 split
 ·exact le_refl hb
 ·split
  ·exact .inr (.inl rfl)
  ·rename_i h1 h2
   rcases ha with rfl | rfl | ⟨a1,a2,_⟩
   ·exact absurd rfl h1
   ·exact absurd (.inl rfl) h2
   ·rcases hb with rfl | rfl | ⟨b1,b2,_⟩
    ·exact absurd rfl hb0
    ·exact absurd (.inr (.inl rfl)) h2
    ·have hsk:a.sk=b.sk:=Decidable.byContradiction fun h=>h2 (.inr (.inr h))
     refine .inr (.inr ⟨b1,rfl,hsk.symm,by rw [slJoin_length _ _ (by omega)];omega,fun i hi=>?_⟩)
     rw [slJoin_get _ _ (by omega) i (by omega)]
     split
     ·rename_i h;exact .inl h
     ·exact .inr rfl
theorem join_le {S:Nat} {a b c:Sh} (_ha:OkSh S a) (_hb:OkSh S b) (hb0:b.st≠0) (h:le a c) (k:le b c):le (join a b) c:=by
 unfold join
 split
 ·exact k
 ·rename_i h1
  rcases h with h | h | ⟨h2,h3,h4,h5⟩
  ·exact absurd h h1
  ·exact .inr (.inl h)
  ·rcases k with k | k | ⟨k2,_,k4,k5⟩
   ·exact absurd k hb0
   ·exact .inr (.inl k)
   ·rw [if_neg (by rintro (x | x | x);omega;omega;exact x (h4.trans k4.symm))]
    have hl:a.sl.length=b.sl.length:=h5.1.trans k5.1.symm
    refine .inr (.inr ⟨rfl,h3,h4,by rw [slJoin_length _ _ hl];exact h5.1,fun i hi=>?_⟩)
    rw [slJoin_length _ _ hl] at hi
    rw [slJoin_get _ _ hl i hi]
    have x:=h5.2 i hi
    have y:=k5.2 i (by omega)
    split
    ·exact x
    ·rename_i hne
     rcases x with x | x
     ·rcases y with y | y
      ·exact absurd (x.symm.trans y) hne
      ·exact .inr y
     ·exact .inr x
def nz:List Int→Nat
 | []=>0
 | x :: r=>(if x=0 then 0 else 1)+nz r
theorem nz_le:∀ l:List Int,nz l≤l.length
 | []=>Nat.le_refl _
 | x :: r=>by
  have:=nz_le r
  simp only [nz,List.length_cons]
  split <;> omega
def hgt (S:Nat) (s:Sh):Nat:=if s.st=0 then S+2 else if s.st=1 then 1+nz s.sl else 0
theorem hgt_0 {S:Nat} {s:Sh} (h:s.st=0):hgt S s=S+2:=if_pos h
theorem hgt_1 {S:Nat} {s:Sh} (h:s.st=1):hgt S s=1+nz s.sl:=by unfold hgt;rw [if_neg (by omega),if_pos h]
theorem hgt_2 {S:Nat} {s:Sh} (h:s.st=2):hgt S s=0:=by unfold hgt;rw [if_neg (by omega),if_neg (by omega)]
theorem nz_down:∀ (a b:List Int),slLe a b→nz b≤nz a∧(¬ a=b→nz b < nz a):=by
 intro a
 induction a with
 | nil =>
  intro b h
  have:b=[]:=List.eq_nil_of_length_eq_zero h.1.symm
  subst this
  exact ⟨Nat.le_refl _,fun h=>absurd rfl h⟩
 | cons x a ih =>
  intro b h
  cases b with
  | nil=>exact absurd h.1 (by simp)
  | cons y b =>
   have hs:slLe a b:=⟨by simpa using h.1,fun i hi=>by simpa using h.2 (i+1) (by simpa using hi)⟩
   have h0:=h.2 0 (by simp)
   simp only [List.getD_cons_zero] at h0
   obtain ⟨i1,i2⟩:=ih b hs
   simp only [nz]
   rcases h0 with rfl | rfl
   ·refine ⟨by split <;> omega,fun hne=>?_⟩
    have:=i2 (fun e=>hne (by rw [e]))
    split <;> omega
   ·by_cases hx:x=0
    ·subst hx
     refine ⟨by rw [if_pos rfl];omega,fun hne=>?_⟩
     have:=i2 (fun e=>hne (by rw [e]))
     rw [if_pos rfl];omega
    ·rw [if_neg hx,if_pos rfl]
     exact ⟨by omega,fun _=>by omega⟩
theorem hgt_lt {S:Nat} {a b:Sh} (ha:OkSh S a) (hb:OkSh S b) (h:le a b) (hne:¬ a=b):hgt S b < hgt S a:=by
 rcases h with h | h | ⟨h1,h2,h3,h4⟩
 ·have e:a=bot:=by
   rcases ha with h2 | h2 | ⟨h2,_⟩
   ·exact h2
   ·rw [h2] at h;simp [top] at h
   ·omega
  rw [hgt_0 (s:=a) (by rw [e];rfl)]
  rcases hb with rfl | rfl | ⟨b1,b2,_⟩
  ·exact absurd e hne
  ·rw [hgt_2 rfl];omega
  ·have:=nz_le b.sl
   rw [hgt_1 b1]
   omega
 ·have e:b=top:=by
   rcases hb with k | k | ⟨k,_⟩
   ·rw [k] at h;simp [bot] at h
   ·exact k
   ·omega
  rw [hgt_2 (s:=b) h]
  rcases ha with rfl | rfl | ⟨a1,_⟩
  ·rw [hgt_0 rfl];omega
  ·exact absurd e.symm hne
  ·rw [hgt_1 a1];omega
 ·have:=(nz_down _ _ h4).2 (fun e=>hne (by
   obtain ⟨s1,l1,k1⟩:=a
   obtain ⟨s2,l2,k2⟩:=b
   simp only at h1 h2 h3 e
   rw [h1,h2,h3,e]))
  rw [hgt_1 h1,hgt_1 h2]
  omega
end Go.Proofs.YtbkmglknbflkhaaGreatDoor.C
namespace Go.Proofs.YtbkmglknbflkhaaGreatDoor.J
open Go.RowKit
set_option maxRecDepth 20000
theorem ret_bool {a b:Bool} (h:a=b):Ending.returned (.bool a)=.returned (.bool b):=by rw [h]
theorem ret_int {k:IntKind} {a b:Int} (h:a=b):Ending.returned (.int k a)=.returned (.int k b):=by rw [h]
theorem len_size (s:ByteArray):s.data.toList.length=s.size:=by simp
theorem bytes_eq {a b:ByteArray} (h:(a.toList == b.toList)=true):a=b:=by
 rw [Lib.toList_data,Lib.toList_data,beq_iff_eq] at h
 exact ByteArray.ext (Array.toList_inj.1 h)
theorem cell_new_row (w:World) (cs:Array Value) (t:TypeId) (i:Nat):(w.alloc (.cells cs t)).cell? ⟨w.heap.size,i,none⟩=cs[i]?:=by
 have h:=heap_alloc_new w (.cells cs t)
 unfold World.cell?
 rw [h];rfl
theorem hid {p:Prop} (h:p):Hid p:=h
theorem own_base {w:World} {B B' e size k:Nat} {v:Value} {xs:List Value} (h:w.ownsRow B e size v k xs) (hB:B'≤B):w.ownsRow B' e size v k xs:=by
 obtain ⟨h1,h2 | ⟨g,cap,cur,a,b,c⟩⟩:=h
 ·exact ⟨h1,.inl h2⟩
 ·exact ⟨h1,.inr ⟨g,cap,cur,a,Nat.le_trans hB b,c⟩⟩
def Says (e:Ending) (P:Prop):Prop:=∃ b,e=.returned (.bool b)∧(b=true ↔ P)
theorem says_t {P:Prop} (h:P):Says (.returned (.bool true)) P:=⟨true,rfl,by simp [h]⟩
theorem says_f {P:Prop} (h:¬ P):Says (.returned (.bool false)) P:=⟨false,rfl,by simp [h]⟩
theorem Says.get {e:Ending} {P:Prop} (h:Says e P):e=.returned (.bool true)∧P∨e=.returned (.bool false)∧¬ P:=by
 obtain ⟨b,rfl,hb⟩:=h
 cases b
 ·exact .inr ⟨rfl,fun h=>by simp [h] at hb⟩
 ·exact .inl ⟨rfl,hb.1 rfl⟩
theorem btree {w wr:World} {X:Obj} (h:Below (w.heap.size+1) (w.alloc X) wr):Below w.heap.size w wr :=
 Below.trans ((Below.refl w.heap.size w).alloc (Nat.le_refl _) X) (h.mono (B':=w.heap.size) (Nat.le_succ _))
theorem add_block (a:Addr) (n:Nat):(a.add n).block=a.block:=by unfold Addr.add;split <;> rfl
theorem below_two' (w:World) (a b:Obj):Below w.heap.size w ((w.alloc a).alloc b):=((Below.refl _ _).alloc (Nat.le_refl _) a).alloc (by simp) b
theorem set_at {W:World} {g i:Nat} {cur:Array Value} {t:TypeId} (v:Value) (h:W.heap[g]?=some (.cells cur t (0,0))):(W.setCell ⟨g,i,none⟩ v).heap[g]?=some (.cells (cur.setIfInBounds i v) t (0,0)):=by
 unfold World.setCell
 simp only [Array.getElem?_modify,h]
 simp
theorem below_set {B:Nat} {w w':World} (h:Below B w w') (g i:Nat) (hg:B≤g) (v:Value):Below B w (w'.setCell ⟨g,i,none⟩ v):=h.setCell hg v
theorem add_one (a:Addr) (n:Nat) (h:n≠0):a.add n=⟨a.block,a.off+n,none⟩:=by unfold Addr.add;rw [if_neg h]
theorem Says.pos {e:Ending} {P:Prop} (h:Says e P) (hp:P):e=.returned (.bool true):=by
 rcases h.get with ⟨h,_⟩ | ⟨_,h⟩
 ·exact h
 ·exact absurd hp h
theorem Says.neg {e:Ending} {P:Prop} (h:Says e P) (hp:¬ P):e=.returned (.bool false):=by
 rcases h.get with ⟨_,h⟩ | ⟨h,_⟩
 ·exact absurd h hp
 ·exact h
theorem below_drewN {B:Nat} {w w':World} (h:Below B w w') (n:Nat):Below B w (w'.drewN n):=by
 induction n with
 | zero=>exact h
 | succ n ih=>exact ih.drew
structure Gr (w:World) where
 W:World
 h:Below w.heap.size w W
theorem wp_region_gr {P:Program} {id:Nat} {Q:Exit→Act→World→Prop} {a:Act} {w:World} {l:List Oper} (hm:P.follows .mixedOrders=true) (hB:Region.lexB .any l.toArray=true)
  (h:wpQuiet P l.toArray (fun w'=>∃ p:Gr w,w'=p.W) (fun a'=>∀ w',(∃ p:Gr w,w'=p.W)→Q .normal a' w') l a):(Code.region id l.toArray true).wp P Q a w :=
 wp_region_quiet (C:=fun w'=>∃ p:Gr w,w'=p.W) hm hB ⟨⟨w.drew,(Below.refl _ _).drew⟩,rfl⟩ (by simpa using h)
theorem Calls.gr_of {P:Program} {f:FuncId} {args:Array Value} {w:World} {p:Gr w} {v:Value} (h:Below w.heap.size w p.W→Calls P f args p.W fun e w'=>e=.returned v∧Below p.W.heap.size p.W w') :
  Calls P f args p.W fun e w''=>e=.returned v∧∃ p:Gr w,w''=p.W :=
 (h p.h).mono fun _ w' ⟨he,hb⟩=>⟨he,⟨w',p.h.trans (hb.mono p.h.size)⟩,rfl⟩
theorem add_at (g j:Nat):(⟨g,0,none⟩:Addr).add j=⟨g,j,none⟩:=by cases j <;> simp [Addr.add]
end Go.Proofs.YtbkmglknbflkhaaGreatDoor.J
namespace Go.Proofs.YtbkmglknbflkhaaGreatDoor.R
open Go.RowKit
set_option maxRecDepth 20000
theorem hid {p:Prop} (h:p):Hid p:=h
theorem ret_int {k:IntKind} {a b:Int} (h:a=b):Ending.returned (.int k a)=.returned (.int k b):=by rw [h]
theorem add_block (a:Addr) (n:Nat):(a.add n).block=a.block:=by unfold Addr.add;split <;> rfl
theorem add_one (a:Addr) (n:Nat) (h:n≠0):a.add n=⟨a.block,a.off+n,none⟩:=by unfold Addr.add;rw [if_neg h]
theorem add_at (g i:Nat):(⟨g,0,none⟩:Addr).add i=⟨g,i,none⟩:=by
 unfold Addr.add
 split
 ·simp_all
 ·simp
theorem small {n:Nat} (h:n≤maxLen):n≤9223372036854775807:=by unfold maxLen at h;simpa using h
theorem lt_hp {W:World} {k:Nat} {o:Obj} (h:W.heap[k]?=some o):k < W.heap.size:=(Array.getElem?_eq_some_iff.1 h).1
theorem hp_next {W V:World} {g:Nat} {o:Obj} (h:W.heap[g]?=some o) (hb:Below W.heap.size W V):V.heap[g]?=some o:=(hb.block g (lt_hp h)).trans h
theorem row_room {W:World} {g i:Nat} {cur:Array Value} {t:TypeId} (h:W.heap[g]?=some (.cells cur t (0,0))) (hi:i < cur.size) :
  (∃ v,W.cell? ⟨g,i,none⟩=some v)∧W.frozen? ⟨g,i,none⟩=false :=
 ⟨⟨cur[i],by unfold World.cell?;rw [h];simp [hi]⟩,by unfold World.frozen?;rw [h];simp⟩
theorem row_cell {W:World} {g:Nat} {cur:Array Value} {t:TypeId} (h:W.heap[g]?=some (.cells cur t (0,0))) (i:Nat):W.cell? ⟨g,i,none⟩=cur[i]?:=by
 unfold World.cell?
 rw [h];rfl
theorem set_at {W:World} {g i:Nat} {cur:Array Value} {t:TypeId} (v:Value) (h:W.heap[g]?=some (.cells cur t (0,0))):(W.setCell ⟨g,i,none⟩ v).heap[g]?=some (.cells (cur.setIfInBounds i v) t (0,0)):=by
 unfold World.setCell
 simp only [Array.getElem?_modify,h]
 simp
theorem set_other (W:World) (g j i:Nat) (v:Value) (h:¬ i=g):(W.setCell ⟨g,j,none⟩ v).heap[i]?=W.heap[i]?:=by
 unfold World.setCell
 simp only [Array.getElem?_modify]
 rw [if_neg (fun e=>h e.symm)]
theorem below_set {B:Nat} {w w':World} (h:Below B w w') (g i:Nat) (hg:B≤g) (v:Value):Below B w (w'.setCell ⟨g,i,none⟩ v):=h.setCell hg v
theorem below_two' (w:World) (a b:Obj):Below w.heap.size w ((w.alloc a).alloc b):=((Below.refl _ _).alloc (Nat.le_refl _) a).alloc (by simp) b
theorem below_drewN {B:Nat} {w w':World} (h:Below B w w') (n:Nat):Below B w (w'.drewN n):=by
 induction n with
 | zero=>exact h
 | succ n ih=>exact ih.drew
structure B1 (w:World) (o:Obj) (W:World):Prop where
 lo:Below w.heap.size w W
 e:W.heap[w.heap.size]?=some o
theorem B1.start (w:World) (o:Obj):B1 w o (w.alloc o):=⟨(Below.refl _ _).alloc (Nat.le_refl _) _,heap_alloc_new _ _⟩
theorem B1.next {w W V:World} {o:Obj} (h:B1 w o W) (hb:Below W.heap.size W V):B1 w o V:=⟨h.lo.trans (hb.mono h.lo.size),hp_next h.e hb⟩
structure B2 (w:World) (o p:Obj) (W:World):Prop where
 lo:Below w.heap.size w W
 e:W.heap[w.heap.size]?=some o
 f:W.heap[w.heap.size+1]?=some p
theorem B2.start (w:World) (o p:Obj):B2 w o p ((w.alloc o).alloc p):=by
 refine ⟨below_two' _ _ _,?_,?_⟩
 ·rw [Below.heap_alloc _ _ _ (by simp)]
  exact heap_alloc_new w o
 ·have:=heap_alloc_new (w.alloc o) p
  rwa [World.size_alloc] at this
theorem B2.next {w W V:World} {o p:Obj} (h:B2 w o p W) (hb:Below W.heap.size W V):B2 w o p V:=⟨h.lo.trans (hb.mono h.lo.size),hp_next h.e hb,hp_next h.f hb⟩
structure B3 (w:World) (o:Obj) (R O:Array Value) (t:TypeId) (W:World):Prop where
 lo:Below w.heap.size w W
 e:W.heap[w.heap.size]?=some o
 r:W.heap[w.heap.size+1]?=some (.cells R t (0,0))
 o:W.heap[w.heap.size+1+1]?=some (.cells O t (0,0))
theorem B3.start (w:World) (o:Obj) (R O:Array Value) (t:TypeId):B3 w o R O t (((w.alloc o).alloc (.cells R t)).alloc (.cells O t)):=by
 have h:=B2.start w o (.cells R t)
 refine ⟨h.lo.alloc (by simp;omega) _,?_,?_,?_⟩
 ·rw [Below.heap_alloc _ _ _ (by simp;omega)];exact h.e
 ·rw [Below.heap_alloc _ _ _ (by simp)];exact h.f
 ·have:=heap_alloc_new ((w.alloc o).alloc (.cells R t)) (.cells O t)
  rwa [World.size_alloc,World.size_alloc] at this
theorem B3.next {w W V:World} {o:Obj} {R O:Array Value} {t:TypeId} (h:B3 w o R O t W) (hb:Below W.heap.size W V):B3 w o R O t V:=⟨h.lo.trans (hb.mono h.lo.size),hp_next h.e hb,hp_next h.r hb,hp_next h.o hb⟩
theorem B3.set {w W:World} {o:Obj} {R O:Array Value} {t:TypeId} (h:B3 w o R O t W) (i:Nat) (v:Value):B3 w o R (O.setIfInBounds i v) t (W.setCell ⟨w.heap.size+1+1,i,none⟩ v) :=
 ⟨below_set h.lo _ _ (by omega) _,(set_other _ _ _ _ _ (by omega)).trans h.e,(set_other _ _ _ _ _ (by omega)).trans h.r,set_at v h.o⟩
theorem B3.cast {w W:World} {o:Obj} {R O O':Array Value} {t:TypeId} (h:B3 w o R O t W) (e:O=O'):B3 w o R O' t W:=e ▸ h
theorem B3.sz {w W:World} {o:Obj} {R O:Array Value} {t:TypeId} (h:B3 w o R O t W):w.heap.size+3≤W.heap.size:=lt_hp h.o
structure Gr (w:World) where
 W:World
 h:Below w.heap.size w W
theorem wp_region_gr {P:Program} {id:Nat} {Q:Exit→Act→World→Prop} {a:Act} {w:World} {l:List Oper} (hm:P.follows .mixedOrders=true) (hB:Region.lexB .any l.toArray=true)
  (h:wpQuiet P l.toArray (fun w'=>∃ p:Gr w,w'=p.W) (fun a'=>∀ w',(∃ p:Gr w,w'=p.W)→Q .normal a' w') l a):(Code.region id l.toArray true).wp P Q a w :=
 wp_region_quiet (C:=fun w'=>∃ p:Gr w,w'=p.W) hm hB ⟨⟨w.drew,(Below.refl _ _).drew⟩,rfl⟩ (by simpa using h)
theorem Calls.gr_of {P:Program} {f:FuncId} {args:Array Value} {w:World} {p:Gr w} {v:Value} (h:Below w.heap.size w p.W→Calls P f args p.W fun e w'=>e=.returned v∧Below p.W.heap.size p.W w') :
  Calls P f args p.W fun e w''=>e=.returned v∧∃ p:Gr w,w''=p.W :=
 (h p.h).mono fun _ w' ⟨he,hb⟩=>⟨he,⟨w',p.h.trans (hb.mono p.h.size)⟩,rfl⟩
theorem info_parts {i:Option TypeInfo} {z:Value} {s b:Nat} (h:i.map (fun i=>(i.zero,i.size,i.bytes))=some (some z,s,b)):∃ j,i=some j∧j.zero=some z∧j.size=s∧j.bytes=b:=by
 cases i with
 | none=>cases h
 | some j=>simp at h;exact ⟨j,rfl,h.1,h.2.1,h.2.2⟩
def SzEnd (l:Int) (k:Nat) (w:World) (e:Ending) (w':World):Prop:=(∃ r,e=.returned (.int .i64 r)∧-1≤r∧r≤l∧(0≤r→r+(k:Int)=l))∧Below w.heap.size w w'
end Go.Proofs.YtbkmglknbflkhaaGreatDoor.R
namespace Go.Proofs.YtbkmglknbflkhaaGreatDoor.C
structure In where
 op:Int
 a:Int
 n:Int
 text:ByteArray
structure Fn where
 name:ByteArray
 params:List Int
 result:Int
 slots:Int
 ins:List In
def Fn.S (f:Fn):Nat:=f.slots.toNat
def in0:In:=⟨0,0,0,⟨#[]⟩⟩
def fn0:Fn:=⟨⟨#[]⟩,[],0,0,[]⟩
def isI (t:Int):Bool:=decide (3≤t) && decide (t≤10)
def unG (op k:Int):Int:=if (op=2∧k=1)∨(¬ op=2∧isI k=true) then k else 0
def binG (op a b:Int):Int :=
 if ¬ a=b∨a=0 then 0 else if op=3∨op=4 then 1 else if 5≤op∧op≤8 then (if a=1 then 0 else 1) else if op=9 then (if a=1 then 0 else a) else if isI a=true then a else 0
def sig (op:Int):List Int × Int :=
 if op=1∨op=3 then ([2],2) else if op=2 then ([2],1) else if op=4 then ([2,2],2) else if op=5 then ([],2) else if op=6∨op=12 then ([2],10) else if op=7 then ([2,10],3) else if op=8 then ([2,10,10],2) else if op=9 then ([2,2],10) else if op=10 then ([3],2) else ([-1],2)
def fitK (ask k:Int):Bool:=decide (ask=k) || (decide (ask=-1) && isI k)
def fitL:List Int→List Int→Bool
 | [],[]=>true
 | a :: r,k :: s=>fitK a k && fitL r s
 | _,_=>false
def takesN (fns:List Fn) (i:In):Nat :=
 if i.op=3∨i.op=4∨i.op=5∨i.op=7∨i.op=11∨i.op=13∨i.op=15 then 1 else if i.op=6∨i.op=14 then 2 else if i.op=8 then (sig i.a).1.length else if i.op=9 then (fns.getD i.a.toNat fn0).params.length else if i.op=12 then i.a.toNat else 0
def opt (t:Int):Option (List Int):=if t=0 then none else some [t]
def whn (p:Prop) [Decidable p] (l:List Int):Option (List Int):=if p then some l else none
def eff (fns:List Fn) (f:Fn) (i:In) (sl tk:List Int):Option (List Int) :=
 if i.op=1 then some [i.a]
 else if i.op=2 then opt (sl.getD i.a.toNat 0)
 else if i.op=5 then opt (unG i.a (tk.getD 0 0))
 else if i.op=6 then opt (binG i.a (tk.getD 0 0) (tk.getD 1 0))
 else if i.op=7 then whn (isI (tk.getD 0 0)=true) [i.a]
 else if i.op=8 then whn (fitL (sig i.a).1 tk=true) [(sig i.a).2]
 else if i.op=9 then whn (tk=(fns.getD i.a.toNat fn0).params) (if (fns.getD i.a.toNat fn0).result=0 then [] else [(fns.getD i.a.toNat fn0).result])
 else if i.op=11 then whn (tk.getD 0 0=1) []
 else if i.op=12 then whn (i.a=0∨tk.getD 0 0=f.result) []
 else if i.op=13∨i.op=15 then whn (tk.getD 0 0=2) []
 else if i.op=14 then whn (tk.getD 0 0=2∧tk.getD 1 0=2) []
 else some []
def goes (i:In) (p:Nat):List Nat:=if i.op=12∨i.op=13 then [] else if i.op=10 then [i.a.toNat] else if i.op=11 then [i.a.toNat,p+1] else [p+1]
def behind (fns:List Fn) (f:Fn) (p:Nat) (s:Sh):Sh :=
 if s.st=1∧takesN fns (f.ins.getD p in0)≤s.sk.length∧∀ g ∈ goes (f.ins.getD p in0) p,g < f.ins.length then
  match eff fns f (f.ins.getD p in0) s.sl (s.sk.drop (s.sk.length - takesN fns (f.ins.getD p in0))) with
  | none=>top
  | some l=>if s.sk.length - takesN fns (f.ins.getD p in0)+l.length≤600 then ⟨1,if (f.ins.getD p in0).op=3 then s.sl.set (f.ins.getD p in0).a.toNat (s.sk.getLastD 0) else s.sl,s.sk.take (s.sk.length - takesN fns (f.ins.getD p in0)) ++ l⟩ else top
 else top
structure InsR (fns:List Fn) (f:Fn) (i:In):Prop where
 op:1≤i.op∧i.op≤16
 push:i.op=1→1≤i.a∧i.a≤10
 slot:i.op=2∨i.op=3→0≤i.a∧i.a < f.slots
 un:i.op=5→1≤i.a∧i.a≤3
 bin:i.op=6→3≤i.a∧i.a≤18
 conv:i.op=7→3≤i.a∧i.a≤10
 built:i.op=8→1≤i.a∧i.a≤12
 call:i.op=9→0≤i.a∧i.a < fns.length
 place:i.op=10∨i.op=11→0≤i.a∧i.a≤f.ins.length
 ret:i.op=12→(i.a=1∧¬ f.result=0)∨(i.a=0∧f.result=0)
structure FnR (fns:List Fn) (f:Fn):Prop where
 params:∀ x ∈ f.params,1≤x∧x≤10
 few:f.params.length≤8
 result:0≤f.result∧f.result≤10
 slots:(f.params.length:Int)≤f.slots∧f.slots≤200
 some_:1≤f.ins.length∧f.ins.length≤50000
 ins:∀ i ∈ f.ins,InsR fns f i
theorem unG_range {op k:Int} (hk:0≤k∧k≤10):0≤unG op k∧unG op k≤10:=by
 unfold unG;split <;> omega
theorem binG_range {op a b:Int} (ha:0≤a∧a≤10):0≤binG op a b∧binG op a b≤10:=by
 unfold binG;(repeat' split) <;> omega
theorem sig_range (op:Int):1≤(sig op).2∧(sig op).2≤10:=by
 unfold sig;(repeat' split) <;> simp
theorem opt_some {t:Int} {l:List Int} (h:opt t=some l):¬ t=0∧l=[t]:=by
 unfold opt at h
 split at h
 ·cases h
 ·rename_i hne
  exact ⟨hne,by simpa using h.symm⟩
theorem whn_some {p:Prop} [Decidable p] {l m:List Int} (h:whn p l=some m):p∧m=l:=by
 unfold whn at h
 split at h
 ·rename_i hp
  exact ⟨hp,by simpa using h.symm⟩
 ·cases h
theorem getD_range {l:List Int} (h:∀ x ∈ l,1≤x∧x≤10) (i:Nat):0≤l.getD i 0∧l.getD i 0≤10:=by
 by_cases hi:i < l.length
 ·rw [List.getD_eq_getElem?_getD,List.getElem?_eq_getElem hi]
  have:=h _ (List.getElem_mem hi)
  simp;omega
 ·rw [List.getD_eq_getElem?_getD,List.getElem?_eq_none (by omega)];simp
theorem getD_range0 {l:List Int} (h:∀ x ∈ l,0≤x∧x≤10) (i:Nat):0≤l.getD i 0∧l.getD i 0≤10:=by
 by_cases hi:i < l.length
 ·rw [List.getD_eq_getElem?_getD,List.getElem?_eq_getElem hi]
  exact h _ (List.getElem_mem hi)
 ·rw [List.getD_eq_getElem?_getD,List.getElem?_eq_none (by omega)];simp
theorem eff_range {fns:List Fn} {f:Fn} {i:In} {sl tk l:List Int} (_hf:FnR fns f) (hF:∀ g ∈ fns,FnR fns g) (hi:InsR fns f i) (hs:∀ x ∈ sl,0≤x∧x≤10) (ht:∀ x ∈ tk,1≤x∧x≤10) (h:eff fns f i sl tk=some l):(∀ x ∈ l,1≤x∧x≤10)∧l.length≤1:=by
 have one:∀ t:Int,1≤t∧t≤10→(∀ x ∈ [t],1≤x∧x≤10)∧[t].length≤1:=fun t h=>⟨fun x hx=>by simp at hx;subst hx;exact h,by simp⟩
 have none:(∀ x ∈ ([]:List Int),1≤x∧x≤10)∧([]:List Int).length≤1:=⟨fun x hx=>(nomatch hx),by simp⟩
 have h0:=getD_range0 hs i.a.toNat
 have t0:=getD_range ht 0
 obtain ⟨op,a,n,t⟩:=i
 have hop:=hi.op
 dsimp only at hop h0
 obtain rfl | rfl | rfl | rfl | rfl | rfl | rfl | rfl | rfl | rfl | rfl | rfl | rfl | rfl | rfl | rfl:op=1∨op=2∨op=3∨op=4∨op=5∨op=6∨op=7∨op=8∨op=9∨op=10∨op=11∨op=12∨op=13∨op=14∨op=15∨op=16:=by omega
 all_goals simp [eff] at h
 ·rw [← h];exact one _ (hi.push rfl)
 ·obtain ⟨h1,rfl⟩:=opt_some h
  exact one _ (by simp at h0 h1 ⊢;omega)
 ·rw [h];exact none
 ·rw [h];exact none
 ·obtain ⟨h1,rfl⟩:=opt_some h
  have:=unG_range (op:=a) t0
  exact one _ (by simp at this h1 ⊢;omega)
 ·obtain ⟨h1,rfl⟩:=opt_some h
  have:=binG_range (op:=a) (b:=tk.getD 1 0) t0
  exact one _ (by simp at this h1 ⊢;omega)
 ·obtain ⟨_,rfl⟩:=whn_some h
  have:=hi.conv rfl
  exact one _ (by dsimp only at this;omega)
 ·obtain ⟨_,rfl⟩:=whn_some h
  exact one _ (sig_range _)
 ·obtain ⟨_,rfl⟩:=whn_some h
  split
  ·exact none
  ·rename_i hne
   have hc:=hi.call rfl
   dsimp only at hc
   have hm:fns.getD a.toNat fn0 ∈ fns:=by
    have:a.toNat < fns.length:=by omega
    rw [List.getD_eq_getElem?_getD,List.getElem?_eq_getElem this]
    exact List.getElem_mem this
   have:=(hF _ hm).result
   simp only [List.getD_eq_getElem?_getD] at this hne ⊢
   exact one _ (by omega)
 ·rw [h];exact none
 ·obtain ⟨_,rfl⟩:=whn_some h;exact none
 ·obtain ⟨_,rfl⟩:=whn_some h;exact none
 ·obtain ⟨_,rfl⟩:=whn_some h;exact none
 ·obtain ⟨_,rfl⟩:=whn_some h;exact none
 ·obtain ⟨_,rfl⟩:=whn_some h;exact none
 ·rw [h];exact none
theorem behind_st (fns:List Fn) (f:Fn) (p:Nat) (s:Sh):(behind fns f p s).st≠0:=by
 unfold behind
 split
 ·split
  ·simp [top]
  ·split
   ·simp
   ·simp [top]
 ·simp [top]
theorem behind_ok {fns:List Fn} {f:Fn} {p:Nat} {s:Sh} (hf:FnR fns f) (hF:∀ g ∈ fns,FnR fns g) (hp:p < f.ins.length) (hs:OkSh f.S s):OkSh f.S (behind fns f p s):=by
 have hm:f.ins.getD p in0 ∈ f.ins:=by rw [List.getD_eq_getElem?_getD,List.getElem?_eq_getElem hp];exact List.getElem_mem hp
 unfold behind
 generalize f.ins.getD p in0=i at *
 have hi:=hf.ins i hm
 split
 ·rename_i hc
  rcases hs with rfl | rfl | ⟨s1,s2,s3,s4,s5⟩
  ·exact absurd hc.1 (by simp [bot])
  ·exact absurd hc.1 (by simp [top])
  ·split
   ·exact .inr (.inl rfl)
   ·rename_i l hl
    split
    ·rename_i h6
     have hr:=eff_range hf hF hi s3 (fun x hx=>s4 x (List.mem_of_mem_drop hx)) hl
     refine .inr (.inr ⟨rfl,?_,?_,?_,?_⟩)
     ·dsimp only
      split
      ·rw [List.length_set];exact s2
      ·exact s2
     ·dsimp only
      split
      ·rename_i h3
       intro x hx
       rcases List.mem_or_eq_of_mem_set hx with hx | rfl
       ·exact s3 x hx
       ·have hne:s.sk≠[]:=fun e=>by
         have:=hc.2.1
         rw [e] at this
         simp [takesN,h3] at this
        have:=s4 (s.sk.getLastD 0) (by
         cases hk:s.sk with
         | nil=>exact absurd hk hne
         | cons a r=>rw [List.getLastD_cons];exact List.getLastD_mem_cons ..)
        omega
      ·exact s3
     ·intro x hx
      rcases List.mem_append.1 hx with hx | hx
      ·exact s4 x (List.mem_of_mem_take hx)
      ·exact hr.1 x hx
     ·dsimp only
      rw [List.length_append,List.length_take]
      omega
    ·exact .inr (.inl rfl)
 ·exact .inr (.inl rfl)
theorem set_le {a b:List Int} (h:slLe a b) (k:Nat) (t:Int):slLe (a.set k t) (b.set k t):=by
 refine ⟨by simp [h.1],fun i hi=>?_⟩
 rw [List.length_set] at hi
 simp only [List.getD_eq_getElem?_getD,List.getElem?_set]
 by_cases e:k=i
 ·subst e
  have:=h.1
  rw [if_pos rfl,if_pos rfl,if_pos hi,if_pos (by omega)]
  exact .inl rfl
 ·rw [if_neg e,if_neg e,← List.getD_eq_getElem?_getD,← List.getD_eq_getElem?_getD]
  exact h.2 i hi
theorem eff_mono {fns:List Fn} {f:Fn} {i:In} {a b tk l:List Int} (h:slLe a b) (hi:InsR fns f i) (ha:a.length=f.S) (he:eff fns f i b tk=some l):eff fns f i a tk=some l:=by
 by_cases h2:i.op=2
 ·have hs:=hi.slot (.inl h2)
  unfold eff at he ⊢
  rw [if_neg (by omega),if_pos h2] at he ⊢
  obtain ⟨h3,rfl⟩:=opt_some he
  rcases h.2 i.a.toNat (by rw [ha];unfold Fn.S;omega) with e | e
  ·rw [← e];exact he
  ·exact absurd e h3
 ·unfold eff at he ⊢
  rw [if_neg h2] at he ⊢
  exact he
theorem behind_mono {fns:List Fn} {f:Fn} {p:Nat} {a b:Sh} (hf:FnR fns f) (hp:p < f.ins.length) (ha:OkSh f.S a) (h:le a b) (h0:a.st≠0):le (behind fns f p a) (behind fns f p b):=by
 have hm:f.ins.getD p in0 ∈ f.ins:=by rw [List.getD_eq_getElem?_getD,List.getElem?_eq_getElem hp];exact List.getElem_mem hp
 have hi:=hf.ins _ hm
 rcases h with h | h | ⟨h1,h2,h3,h4⟩
 ·exact absurd h h0
 ·refine .inr (.inl ?_)
  unfold behind
  rw [if_neg (by omega)]
  rfl
 ·have hal:a.sl.length=f.S:=by
   rcases ha with rfl | rfl | ⟨_,h,_⟩
   ·simp [bot] at h1
   ·simp [top] at h1
   ·exact h
  unfold behind
  generalize f.ins.getD p in0=i at *
  rw [← h3]
  by_cases hc:takesN fns i≤a.sk.length∧∀ g ∈ goes i p,g < f.ins.length
  ·have c1:a.st=1∧takesN fns i≤a.sk.length∧∀ g ∈ goes i p,g < f.ins.length:=⟨h1,hc⟩
   have c2:b.st=1∧takesN fns i≤a.sk.length∧∀ g ∈ goes i p,g < f.ins.length:=⟨h2,hc⟩
   rw [if_pos c1,if_pos c2]
   cases hb:eff fns f i b.sl (a.sk.drop (a.sk.length - takesN fns i)) with
   | none=>exact .inr (.inl rfl)
   | some l =>
    rw [eff_mono h4 hi hal hb]
    dsimp only
    split
    ·refine .inr (.inr ⟨rfl,rfl,rfl,?_⟩)
     dsimp only
     split
     ·exact set_le h4 _ _
     ·exact h4
    ·exact .inr (.inl rfl)
  ·have c2:¬ (b.st=1∧takesN fns i≤a.sk.length∧∀ g ∈ goes i p,g < f.ins.length):=fun h=>hc h.2
   rw [if_neg c2]
   exact .inr (.inl rfl)
def first (f:Fn):Sh:=⟨1,f.params ++ List.replicate (f.S - f.params.length) 0,[]⟩
theorem first_ok {fns:List Fn} {f:Fn} (hf:FnR fns f):OkSh f.S (first f):=by
 refine .inr (.inr ⟨rfl,?_,?_,fun x hx=>(nomatch hx),by simp [first]⟩)
 ·have:=hf.slots;simp [first,Fn.S];omega
 ·intro x hx
  rcases List.mem_append.1 hx with hx | hx
  ·have:=hf.params x hx;omega
  ·have:=List.eq_of_mem_replicate hx;omega
def ClosedAt (fns:List Fn) (f:Fn) (A:Nat→Sh) (p:Nat):Prop:=(A p).st≠0→∀ g ∈ goes (f.ins.getD p in0) p,g < f.ins.length→le (behind fns f p (A p)) (A g)
structure Closed (fns:List Fn) (f:Fn) (A:Nat→Sh):Prop where
 ok:∀ p,p < f.ins.length→OkSh f.S (A p)
 fst:le (first f) (A 0)
 go:∀ p,p < f.ins.length→ClosedAt fns f A p
structure Low (fns:List Fn) (f:Fn) (A:Nat→Sh):Prop where
 ok:∀ p,p < f.ins.length→OkSh f.S (A p)
 low:∀ F,Closed fns f F→∀ p,p < f.ins.length→le (A p) (F p)
theorem least_unique {fns:List Fn} {f:Fn} {A B:Nat→Sh} (a:Closed fns f A) (la:Low fns f A) (b:Closed fns f B) (lb:Low fns f B) (p:Nat) (hp:p < f.ins.length):A p=B p :=
 le_antisymm (a.ok p hp) (b.ok p hp) (la.low B b p hp) (lb.low A a p hp)
def upd (A:Nat→Sh) (g:Nat) (s:Sh):Nat→Sh:=fun q=>if q=g then s else A q
theorem Low.come {fns:List Fn} {f:Fn} {A:Nat→Sh} (h:Low fns f A) (hf:FnR fns f) (hF:∀ g ∈ fns,FnR fns g) {p g:Nat} (hp:p < f.ins.length) (h0:(A p).st≠0) (hg:g ∈ goes (f.ins.getD p in0) p) (hgn:g < f.ins.length):Low fns f (upd A g (join (A g) (behind fns f p (A p)))):=by
 have bo:=behind_ok hf hF hp (h.ok p hp)
 have b0:=behind_st fns f p (A p)
 refine ⟨fun q hq=>?_,fun F hFc q hq=>?_⟩
 ·unfold upd
  split
  ·exact join_ok (h.ok g hgn) bo b0
  ·exact h.ok q hq
 ·unfold upd
  split
  ·rename_i e
   subst e
   refine join_le (h.ok q hq) bo b0 (h.low F hFc q hq) ?_
   have hpF:=h.low F hFc p hp
   have hF0:(F p).st≠0:=fun e=>by
    rcases hpF with x | x | ⟨_,x,_⟩
    ·exact h0 x
    ·omega
    ·omega
   exact le_trans (behind_mono hf hp (h.ok p hp) hpF h0) (hFc.go p hp hF0 q hg hq)
  ·exact h.low F hFc q hq
def tot (S:Nat) (A:Nat→Sh):Nat→Nat
 | 0=>0
 | n+1=>tot S A n+hgt S (A n)
theorem tot_same {S:Nat} {A B:Nat→Sh}:∀ n,(∀ q,q < n→A q=B q)→tot S A n=tot S B n
 | 0,_=>rfl
 | n+1,h=>by simp only [tot];rw [tot_same n (fun q hq=>h q (by omega)),h n (by omega)]
theorem tot_upd {S:Nat} {A:Nat→Sh} {g:Nat} {s:Sh}:∀ n,g < n→hgt S s < hgt S (A g)→tot S (upd A g s) n < tot S A n
 | 0,h,_=>by omega
 | n+1,h,hl=>by
  simp only [tot]
  by_cases e:g=n
  ·subst e
   rw [tot_same (B:=A) g (fun q hq=>by unfold upd;rw [if_neg (by omega)])]
   have:upd A g s g=s:=by unfold upd;rw [if_pos rfl]
   rw [this];omega
  ·have:=tot_upd (S:=S) (A:=A) (s:=s) n (by omega) hl
   have e2:upd A g s n=A n:=by unfold upd;rw [if_neg (by omega)]
   rw [e2];omega
theorem tot_join {f:Fn} {A:Nat→Sh} (h:∀ p,p < f.ins.length→OkSh f.S (A p)) {g:Nat} {b:Sh} (hg:g < f.ins.length) (hb:OkSh f.S b) (hb0:b.st≠0) (hne:¬ join (A g) b=A g):tot f.S (upd A g (join (A g) b)) f.ins.length < tot f.S A f.ins.length :=
 tot_upd _ hg (hgt_lt (h g hg) (join_ok (h g hg) hb hb0) (le_join_left (h g hg) hb hb0) (fun e=>hne e.symm))
end Go.Proofs.YtbkmglknbflkhaaGreatDoor.C
namespace Go.Proofs.YtbkmglknbflkhaaGreatDoor.J
open Go.RowKit
set_option maxRecDepth 20000
theorem size_zero {s:ByteArray} (h:s.size=0):s=⟨#[]⟩:=ByteArray.ext (Array.size_eq_zero_iff.1 h)
theorem isEmpty_iff (s:ByteArray):s.toList.isEmpty=decide (s.size=0):=by
 by_cases h:s.size=0
 ·rw [size_zero h,Lib.toList_data];rfl
 ·rw [decide_eq_false h,Lib.toList_data]
  cases e:s.data.toList with
  | nil=>exact absurd (by rw [← len_size,e];rfl) h
  | cons _ _=>rfl
theorem box2 {w wr:World} {u v:Value} {t:TypeId} (h:Below (w.heap.size+1) (w.alloc (.cells #[u,v] t)) wr) :
  wr.cell? ⟨w.heap.size,0,none⟩=some u∧wr.cell? ⟨w.heap.size,1,none⟩=some v:=by
 constructor
 ·rw [h.cell (p:=⟨w.heap.size,0,none⟩) (by simp),cell_new_row];rfl
 ·rw [h.cell (p:=⟨w.heap.size,1,none⟩) (by simp),cell_new_row];rfl
end Go.Proofs.YtbkmglknbflkhaaGreatDoor.J
namespace Go.Proofs.YtbkmglknbflkhaaGreatDoor.C
structure Src (fns:List Fn) (f:Fn) (p:Nat) (s:Sh):Prop where
 ok:OkSh f.S s
 st:s.st≠0
 low:∀ F,Closed fns f F→∀ g ∈ goes (f.ins.getD p in0) p,g < f.ins.length→le s (F g)
theorem Low.src {fns:List Fn} {f:Fn} {A:Nat→Sh} (h:Low fns f A) (hf:FnR fns f) (hF:∀ g ∈ fns,FnR fns g) {p:Nat} (hp:p < f.ins.length) (h0:(A p).st≠0):Src fns f p (behind fns f p (A p)):=by
 refine ⟨behind_ok hf hF hp (h.ok p hp),behind_st _ _ _ _,fun F hFc g hg hgn=>?_⟩
 have hpF:=h.low F hFc p hp
 have hF0:(F p).st≠0:=fun e=>by
  rcases hpF with x | x | ⟨_,x,_⟩
  ·exact h0 x
  ·omega
  ·omega
 exact le_trans (behind_mono hf hp (h.ok p hp) hpF h0) (hFc.go p hp hF0 g hg hgn)
theorem upd_at (A:Nat→Sh) (g:Nat) (s:Sh):upd A g s g=s:=by unfold upd;rw [if_pos rfl]
theorem upd_ne (A:Nat→Sh) {g q:Nat} (s:Sh) (h:¬ q=g):upd A g s q=A q:=by unfold upd;rw [if_neg h]
theorem Low.comes {fns:List Fn} {f:Fn} {A:Nat→Sh} {s:Sh} {p g:Nat} (h:Low fns f A) (hs:Src fns f p s) (hg:g ∈ goes (f.ins.getD p in0) p) (hgn:g < f.ins.length):Low fns f (upd A g (join (A g) s)):=by
 refine ⟨fun q hq=>?_,fun F hFc q hq=>?_⟩
 ·by_cases e:q=g
  ·subst e;rw [upd_at];exact join_ok (h.ok q hq) hs.ok hs.st
  ·rw [upd_ne _ _ e];exact h.ok q hq
 ·by_cases e:q=g
  ·subst e;rw [upd_at];exact join_le (h.ok q hq) hs.ok hs.st (h.low F hFc q hq) (hs.low F hFc q hg hq)
  ·rw [upd_ne _ _ e];exact h.low F hFc q hq
theorem up_upd {fns:List Fn} {f:Fn} {A:Nat→Sh} {s:Sh} {p g:Nat} (h:Low fns f A) (hs:Src fns f p s) (hgn:g < f.ins.length) (q:Nat) (hq:q < f.ins.length):le (A q) (upd A g (join (A g) s) q):=by
 by_cases e:q=g
 ·subst e;rw [upd_at];exact le_join_left (h.ok q hq) hs.ok hs.st
 ·rw [upd_ne _ _ e];exact le_refl (h.ok q hq)
theorem come_le {S:Nat} {a s:Sh} (ha:OkSh S a) (hs:OkSh S s) (h0:s.st≠0) (h:join a s=a):le s a:=by
 have:=le_join_right ha hs h0
 rwa [h] at this
theorem le_first_low {fns:List Fn} {f:Fn} (hf:FnR fns f):Low fns f (upd (fun _=>bot) 0 (first f)):=by
 refine ⟨fun q hq=>?_,fun F hFc q hq=>?_⟩
 ·by_cases e:q=0
  ·subst e;rw [upd_at];exact first_ok hf
  ·rw [upd_ne _ _ e];exact .inl rfl
 ·by_cases e:q=0
  ·subst e;rw [upd_at];exact hFc.fst
  ·rw [upd_ne _ _ e];exact .inl rfl
structure RInv (fns:List Fn) (f:Fn) (A0 A:Nat→Sh) (i:Nat) (again:Bool):Prop where
 low:Low fns f A
 fst:le (first f) (A 0)
 same:again=false→(∀ q,q < f.ins.length→A q=A0 q)∧∀ p,p < i→ClosedAt fns f A p
 less:again=true→tot f.S A f.ins.length < tot f.S A0 f.ins.length
theorem RInv.start {fns:List Fn} {f:Fn} {A:Nat→Sh} (h:Low fns f A) (h1:le (first f) (A 0)):RInv fns f A A 0 false:=⟨h,h1,fun _=>⟨fun _ _=>rfl,fun p hp=>absurd hp (Nat.not_lt_zero _)⟩,fun h=>by cases h⟩
theorem RInv.skip {fns:List Fn} {f:Fn} {A0 A:Nat→Sh} {i:Nat} {again:Bool} (h:RInv fns f A0 A i again) (h0:(A i).st=0):RInv fns f A0 A (i+1) again :=
 ⟨h.low,h.fst,fun e=>⟨(h.same e).1,fun p hp=>by
  by_cases hi:p=i
  ·subst hi;intro hne;exact absurd h0 hne
  ·exact (h.same e).2 p (by omega)⟩,h.less⟩
structure KInv (fns:List Fn) (f:Fn) (A0 A:Nat→Sh) (i k:Nat) (s:Sh) (again:Bool):Prop where
 base:RInv fns f A0 A i again
 src:Src fns f i s
 now:again=false→s=behind fns f i (A i)
 did:again=false→∀ j,j < k→∀ g,(goes (f.ins.getD i in0) i)[j]?=some g→g < f.ins.length→le s (A g)
theorem RInv.go {fns:List Fn} {f:Fn} {A0 A:Nat→Sh} {i:Nat} {again:Bool} (h:RInv fns f A0 A i again) (hf:FnR fns f) (hF:∀ g ∈ fns,FnR fns g) (hi:i < f.ins.length) (h0:(A i).st≠0):KInv fns f A0 A i 0 (behind fns f i (A i)) again :=
 ⟨h,h.low.src hf hF hi h0,fun _=>rfl,fun _ _j hj=>absurd hj (Nat.not_lt_zero _)⟩
theorem KInv.out {fns:List Fn} {f:Fn} {A0 A:Nat→Sh} {i k:Nat} {s:Sh} {again:Bool} (h:KInv fns f A0 A i k s again) {g:Nat} (hg:(goes (f.ins.getD i in0) i)[k]?=some g) (hgn:¬ g < f.ins.length):KInv fns f A0 A i (k+1) s again :=
 ⟨h.base,h.src,h.now,fun e j hj g' hg' hn=>by
  by_cases hk:j=k
  ·subst hk;rw [hg] at hg';cases hg';exact absurd hn hgn
  ·exact h.did e j (by omega) g' hg' hn⟩
theorem KInv.same {fns:List Fn} {f:Fn} {A0 A:Nat→Sh} {i k:Nat} {s:Sh} {again:Bool} (h:KInv fns f A0 A i k s again) {g:Nat} (hg:(goes (f.ins.getD i in0) i)[k]?=some g) (hgn:g < f.ins.length) (hj:join (A g) s=A g):KInv fns f A0 A i (k+1) s again :=
 ⟨h.base,h.src,h.now,fun e j hj' g' hg' hn=>by
  by_cases hk:j=k
  ·subst hk;rw [hg] at hg';cases hg';exact come_le (h.base.low.ok g hgn) h.src.ok h.src.st hj
  ·exact h.did e j (by omega) g' hg' hn⟩
theorem KInv.up {fns:List Fn} {f:Fn} {A0 A:Nat→Sh} {i k:Nat} {s:Sh} {again:Bool} (h:KInv fns f A0 A i k s again) {g:Nat} (hg:(goes (f.ins.getD i in0) i)[k]?=some g) (hgn:g < f.ins.length) (hj:¬ join (A g) s=A g):KInv fns f A0 (upd A g (join (A g) s)) i (k+1) s true:=by
 have hmem:g ∈ goes (f.ins.getD i in0) i:=List.mem_of_getElem? hg
 have hlow:=h.base.low.comes h.src hmem hgn
 have hlt:=tot_join (f:=f) h.base.low.ok hgn h.src.ok h.src.st hj
 refine ⟨⟨hlow,?_,(fun e=>by cases e),fun _=>?_⟩,h.src,(fun e=>by cases e),(fun e=>by cases e)⟩
 ·by_cases hn:0 < f.ins.length
  ·exact le_trans h.base.fst (up_upd h.base.low h.src hgn 0 hn)
  ·omega
 ·cases again with
  | true=>have:=h.base.less rfl;omega
  | false =>
   have:=(h.base.same rfl).1
   rw [← tot_same f.ins.length this]
   exact hlt
theorem KInv.fin {fns:List Fn} {f:Fn} {A0 A:Nat→Sh} {i k:Nat} {s:Sh} {again:Bool} (h:KInv fns f A0 A i k s again) (hk:(goes (f.ins.getD i in0) i).length≤k):RInv fns f A0 A (i+1) again:=by
 refine ⟨h.base.low,h.base.fst,fun e=>⟨(h.base.same e).1,fun p hp=>?_⟩,h.base.less⟩
 by_cases hi:p=i
 ·subst hi
  intro _ g hg hgn
  obtain ⟨j,hj,e2⟩:=List.getElem_of_mem hg
  rw [← h.now e]
  exact h.did e j (by omega) g (by rw [List.getElem?_eq_getElem hj,e2]) hgn
 ·exact (h.base.same e).2 p (by omega)
theorem RInv.closed {fns:List Fn} {f:Fn} {A0 A:Nat→Sh} (h:RInv fns f A0 A f.ins.length false):Closed fns f A:=⟨h.low.ok,h.fst,(h.same rfl).2⟩
structure WInv (fns:List Fn) (f:Fn) (A:Nat→Sh) (wk:List Nat):Prop where
 low:Low fns f A
 fst:le (first f) (A 0)
 wait:∀ p,p < f.ins.length→p ∈ wk∨ClosedAt fns f A p
 good:∀ p ∈ wk,p < f.ins.length∧(A p).st≠0
 desc:wk.Pairwise (· > ·)
structure GInv (fns:List Fn) (f:Fn) (A:Nat→Sh) (wk:List Nat) (p k:Nat) (s:Sh):Prop where
 low:Low fns f A
 fst:le (first f) (A 0)
 wait:∀ q,q < f.ins.length→¬ q=p→q ∈ wk∨ClosedAt fns f A q
 self:p ∈ wk∨s=behind fns f p (A p)
 good:∀ q ∈ wk,q < f.ins.length∧(A q).st≠0
 desc:wk.Pairwise (· > ·)
 src:Src fns f p s
 did:∀ j,j < k→∀ g,(goes (f.ins.getD p in0) p)[j]?=some g→g < f.ins.length→le s (A g)
theorem WInv.pop {fns:List Fn} {f:Fn} {A:Nat→Sh} {wk:List Nat} {p:Nat} (h:WInv fns f A (wk ++ [p])) (hf:FnR fns f) (hF:∀ g ∈ fns,FnR fns g):GInv fns f A wk p 0 (behind fns f p (A p))∧p < f.ins.length∧(A p).st≠0:=by
 obtain ⟨hp,hp0⟩:=h.good p (by simp)
 refine ⟨⟨h.low,h.fst,fun q hq hne=>?_,.inr rfl,fun q hq=>h.good q (by simp [hq]),(List.pairwise_append.1 h.desc).1,h.low.src hf hF hp hp0,fun j hj=>absurd hj (Nat.not_lt_zero _)⟩,hp,hp0⟩
 rcases h.wait q hq with x | x
 ·rcases List.mem_append.1 x with x | x
  ·exact .inl x
  ·simp at x;exact absurd x hne
 ·exact .inr x
theorem GInv.out {fns:List Fn} {f:Fn} {A:Nat→Sh} {wk:List Nat} {p k:Nat} {s:Sh} (h:GInv fns f A wk p k s) {g:Nat} (hg:(goes (f.ins.getD p in0) p)[k]?=some g) (hgn:¬ g < f.ins.length):GInv fns f A wk p (k+1) s :=
 ⟨h.low,h.fst,h.wait,h.self,h.good,h.desc,h.src,fun j hj g' hg' hn=>by
  by_cases hk:j=k
  ·subst hk;rw [hg] at hg';cases hg';exact absurd hn hgn
  ·exact h.did j (by omega) g' hg' hn⟩
theorem GInv.same {fns:List Fn} {f:Fn} {A:Nat→Sh} {wk:List Nat} {p k:Nat} {s:Sh} (h:GInv fns f A wk p k s) {g:Nat} (hg:(goes (f.ins.getD p in0) p)[k]?=some g) (hgn:g < f.ins.length) (hj:join (A g) s=A g):GInv fns f A wk p (k+1) s :=
 ⟨h.low,h.fst,h.wait,h.self,h.good,h.desc,h.src,fun j hj' g' hg' hn=>by
  by_cases hk:j=k
  ·subst hk;rw [hg] at hg';cases hg';exact come_le (h.low.ok g hgn) h.src.ok h.src.st hj
  ·exact h.did j (by omega) g' hg' hn⟩
def ins1 (wk:List Nat) (g:Nat):List Nat:=wk.filter (fun q=>decide (g < q)) ++ g :: wk.filter (fun q=>decide (q < g))
theorem mem_ins1 {wk:List Nat} {g q:Nat}:q ∈ ins1 wk g ↔ q=g∨q ∈ wk:=by
 unfold ins1
 simp only [List.mem_append,List.mem_filter,List.mem_cons,decide_eq_true_eq]
 constructor
 ·rintro (⟨h,_⟩ | h | ⟨h,_⟩)
  ·exact .inr h
  ·exact .inl h
  ·exact .inr h
 ·rintro (h | h)
  ·exact .inr (.inl h)
  ·rcases Nat.lt_trichotomy q g with x | x | x
   ·exact .inr (.inr ⟨h,x⟩)
   ·exact .inr (.inl x)
   ·exact .inl ⟨h,x⟩
theorem desc_ins1 {wk:List Nat} {g:Nat} (h:wk.Pairwise (· > ·)):(ins1 wk g).Pairwise (· > ·):=by
 unfold ins1
 refine List.pairwise_append.2 ⟨h.filter _,List.pairwise_cons.2 ⟨fun q hq=>?_,h.filter _⟩,fun a ha b hb=>?_⟩
 ·have:=(List.mem_filter.1 hq).2
  simpa using this
 ·have h1:=(List.mem_filter.1 ha).2
  simp at h1
  rcases List.mem_cons.1 hb with rfl | hb
  ·exact h1
  ·have h2:=(List.mem_filter.1 hb).2
   simp at h2
   omega
theorem GInv.up {fns:List Fn} {f:Fn} {A:Nat→Sh} {wk:List Nat} {p k:Nat} {s:Sh} (h:GInv fns f A wk p k s) {g:Nat} (hg:(goes (f.ins.getD p in0) p)[k]?=some g) (hgn:g < f.ins.length) (hj:¬ join (A g) s=A g):GInv fns f (upd A g (join (A g) s)) (ins1 wk g) p (k+1) s∧tot f.S (upd A g (join (A g) s)) f.ins.length < tot f.S A f.ins.length:=by
 have hmem:g ∈ goes (f.ins.getD p in0) p:=List.mem_of_getElem? hg
 have hlow:=h.low.comes h.src hmem hgn
 have hup:=up_upd h.low h.src hgn
 have hj0:(join (A g) s).st≠0:=fun e=>by
  have:=le_join_right (h.low.ok g hgn) h.src.ok h.src.st
  rcases this with x | x | ⟨_,x,_⟩
  ·exact h.src.st x
  ·omega
  ·omega
 refine ⟨⟨hlow,?_,fun q hq hne=>?_,?_,fun q hq=>?_,desc_ins1 h.desc,h.src,fun j hj' g' hg' hn=>?_⟩,tot_join (f:=f) h.low.ok hgn h.src.ok h.src.st hj⟩
 ·exact le_trans h.fst (hup 0 (by omega))
 ·by_cases e:q=g
  ·exact .inl (mem_ins1.2 (.inl e))
  ·rcases h.wait q hq hne with x | x
   ·exact .inl (mem_ins1.2 (.inr x))
   ·refine .inr fun h0 g' hg' hn=>?_
    rw [upd_ne _ _ e] at h0 ⊢
    exact le_trans (x h0 g' hg' hn) (hup g' hn)
 ·by_cases e:p=g
  ·exact .inl (mem_ins1.2 (.inl e))
  ·rcases h.self with x | x
   ·exact .inl (mem_ins1.2 (.inr x))
   ·right;rw [upd_ne _ _ e];exact x
 ·rcases mem_ins1.1 hq with rfl | hq
  ·exact ⟨hgn,by rw [upd_at];exact hj0⟩
  ·by_cases e:q=g
   ·subst e;exact ⟨hgn,by rw [upd_at];exact hj0⟩
   ·rw [upd_ne _ _ e];exact h.good q hq
 ·by_cases hk:j=k
  ·subst hk;rw [hg] at hg';cases hg'
   rw [upd_at]
   exact le_join_right (h.low.ok g hgn) h.src.ok h.src.st
  ·exact le_trans (h.did j (by omega) g' hg' hn) (hup g' hn)
theorem GInv.fin {fns:List Fn} {f:Fn} {A:Nat→Sh} {wk:List Nat} {p k:Nat} {s:Sh} (h:GInv fns f A wk p k s) (hk:(goes (f.ins.getD p in0) p).length≤k):WInv fns f A wk:=by
 refine ⟨h.low,h.fst,fun q hq=>?_,h.good,h.desc⟩
 by_cases e:q=p
 ·subst e
  rcases h.self with x | x
  ·exact .inl x
  ·refine .inr fun _ g hg hgn=>?_
   obtain ⟨j,hj,e2⟩:=List.getElem_of_mem hg
   rw [← x]
   exact h.did j (by omega) g (by rw [List.getElem?_eq_getElem hj,e2]) hgn
 ·exact h.wait q hq e
theorem WInv.closed {fns:List Fn} {f:Fn} {A:Nat→Sh} (h:WInv fns f A []):Closed fns f A:=⟨h.low.ok,h.fst,fun p hp=>(h.wait p hp).resolve_left (by simp)⟩
theorem WInv.start {fns:List Fn} {f:Fn} (hf:FnR fns f):WInv fns f (upd (fun _=>bot) 0 (first f)) [0]:=by
 refine ⟨le_first_low hf,by rw [upd_at];exact le_refl (first_ok hf),fun p hp=>?_,fun p hp=>?_,by simp⟩
 ·by_cases e:p=0
  ·left;simp [e]
  ·right;intro h0;rw [upd_ne _ _ e] at h0;exact absurd rfl h0
 ·simp at hp
  subst hp
  exact ⟨by have:=hf.some_;omega,by rw [upd_at];simp [first]⟩
end Go.Proofs.YtbkmglknbflkhaaGreatDoor.C
namespace Go.Proofs.YtbkmglknbflkhaaGreatDoor.R
open Go.RowKit
set_option maxRecDepth 20000
def IntA (W:World) (a:Addr) (x:Int):Prop:=W.cell? a=some (.int .i64 x)
theorem IntA.of {W V:World} {a:Addr} {x:Int} (h:IntA W a x) (hk:∀ p:Addr,p.block=a.block→V.cell? p=W.cell? p):IntA V a x:=by
 exact (hk _ rfl).trans h
def SIntA (W:World) (v:Value) (l:List Int):Prop:=∃ (ad:Option Addr) (c:Nat),v=.slice ad l.length c∧(l=[]∨∃ a:Addr,ad=some a∧a.block < W.heap.size∧∀ i,i < l.length→IntA W (a.add i) (l.getD i 0))
theorem SIntA.next {W V:World} {v:Value} {l:List Int} (h:SIntA W v l) (hb:Below W.heap.size W V):SIntA V v l:=by
 obtain ⟨ad,c,e,h1⟩:=h
 refine ⟨ad,c,e,?_⟩
 rcases h1 with h1 | ⟨a,e1,e2,e3⟩
 ·exact .inl h1
 ·refine .inr ⟨a,e1,Nat.lt_of_lt_of_le e2 hb.size,fun i hi=>?_⟩
  exact (e3 i hi).of fun p hp=>hb.cell (by rw [hp,add_block];exact e2)
theorem SIntA.sl {W:World} {v:Value} {l:List Int} (h:SIntA W v l):∃ ad c,v=.slice ad l.length c:=by
 obtain ⟨ad,c,e,_⟩:=h
 exact ⟨ad,c,e⟩
theorem SIntA.at {W:World} {v:Value} {l:List Int} (h:SIntA W v l) {i:Nat} (hi:i < l.length):∃ (a:Addr) (c:Nat),v=.slice (some a) l.length c∧a.block < W.heap.size∧IntA W (a.add i) (l.getD i 0):=by
 obtain ⟨ad,c,e,h1⟩:=h
 rcases h1 with h1 | ⟨a,e1,e2,e3⟩
 ·rw [h1] at hi;exact absurd hi (Nat.not_lt_zero _)
 ·subst e1
  exact ⟨a,c,e,e2,e3 i hi⟩
def SIntF (g:Nat) (W:World) (l:List Int) (j:Nat):Prop:=∃ cur,W.heap[g]?=some (.cells cur 3 (0,0))∧cur.size=l.length * 1∧∀ i,i < j→cur[i]?=some (.int .i64 (l.getD i 0))
def SIntR (B:Nat) (W:World) (v:Value) (l:List Int):Prop:=∃ g,v=.slice (some ⟨g,0,none⟩) l.length l.length∧B≤g∧SIntF g W l l.length
theorem SIntF.keep {g:Nat} {W V:World} {l:List Int} {j:Nat} (h:SIntF g W l j) (hk:∀ i,g≤i→i < W.heap.size→V.heap[i]?=W.heap[i]?):SIntF g V l j:=by
 obtain ⟨cur,h1,h2,h3⟩:=h
 exact ⟨cur,(hk g (Nat.le_refl _) (lt_hp h1)).trans h1,h2,h3⟩
theorem SIntR.keep {B:Nat} {W V:World} {v:Value} {l:List Int} (h:SIntR B W v l) (hk:∀ i,B≤i→i < W.heap.size→V.heap[i]?=W.heap[i]?):SIntR B V v l:=by
 obtain ⟨g,e,hg,h1⟩:=h
 exact ⟨g,e,hg,h1.keep fun i hi hj=>hk i (by omega) hj⟩
theorem SIntR.next {B:Nat} {W V:World} {v:Value} {l:List Int} (h:SIntR B W v l) (hb:Below W.heap.size W V):SIntR B V v l:=h.keep fun i _ hj=>hb.block i hj
theorem SIntR.set {B:Nat} {W:World} {v:Value} {l:List Int} (h:SIntR B W v l) {b:Nat} (hb:b < B) (i:Nat) (u:Value):SIntR B (W.setCell ⟨b,i,none⟩ u) v l:=h.keep fun x hx _=>set_other _ _ _ _ _ (by omega)
theorem SIntR.mono {B B':Nat} {W:World} {v:Value} {l:List Int} (h:SIntR B W v l) (hb:B'≤B):SIntR B' W v l:=by
 obtain ⟨g,e,hg,h1⟩:=h
 exact ⟨g,e,Nat.le_trans hb hg,h1⟩
theorem SIntR.sl {B:Nat} {W:World} {v:Value} {l:List Int} (h:SIntR B W v l):∃ g,v=.slice (some ⟨g,0,none⟩) l.length l.length:=by
 obtain ⟨g,e,_⟩:=h
 exact ⟨g,e⟩
theorem SIntR.at {B:Nat} {W:World} {v:Value} {l:List Int} (h:SIntR B W v l) {i:Nat} (hi:i < l.length):∃ g,v=.slice (some ⟨g,0,none⟩) l.length l.length∧B≤g∧g < W.heap.size∧W.cell? ⟨g,i,none⟩=some (.int .i64 (l.getD i 0)):=by
 obtain ⟨g,e,hg,cur,h1,h2,h3⟩:=h
 exact ⟨g,e,hg,lt_hp h1,(row_cell h1 _).trans (h3 i hi)⟩
theorem SIntF.step {g:Nat} {W:World} {l:List Int} {j:Nat} (h:SIntF g W l j) (hj:j < l.length):SIntF g (W.setCell ⟨g,j,none⟩ (.int .i64 (l.getD j 0))) l (j+1):=by
 obtain ⟨cur,h1,h2,h3⟩:=h
 refine ⟨_,(set_at (i:=j) (.int .i64 (l.getD j 0)) h1),by simp [h2],fun i hi=>?_⟩
 by_cases hij:i=j
 ·subst hij
  exact (by rw [Array.getElem?_setIfInBounds_self_of_lt (by first | omega | (simp;omega))])
 ·exact (by rw [Array.getElem?_setIfInBounds_ne (by omega)];exact h3 i (by omega))
theorem SIntF.lt {g:Nat} {W:World} {l:List Int} {j:Nat} (h:SIntF g W l j):g < W.heap.size:=by
 obtain ⟨cur,h1,_⟩:=h
 exact lt_hp h1
theorem SIntF.room {g:Nat} {W:World} {l:List Int} {j:Nat} (h:SIntF g W l j) {i:Nat} (hi:i < l.length * 1):(∃ v,W.cell? ⟨g,i,none⟩=some v)∧W.frozen? ⟨g,i,none⟩=false:=by
 obtain ⟨cur,h1,h2,_⟩:=h
 exact row_room h1 (by omega)
def StrA (W:World) (a:Addr) (x:ByteArray):Prop:=W.cell? a=some (.string x)
theorem StrA.of {W V:World} {a:Addr} {x:ByteArray} (h:StrA W a x) (hk:∀ p:Addr,p.block=a.block→V.cell? p=W.cell? p):StrA V a x:=by
 exact (hk _ rfl).trans h
def SStrA (W:World) (v:Value) (l:List ByteArray):Prop:=∃ (ad:Option Addr) (c:Nat),v=.slice ad l.length c∧(l=[]∨∃ a:Addr,ad=some a∧a.block < W.heap.size∧∀ i,i < l.length→StrA W (a.add i) (l.getD i ⟨#[]⟩))
theorem SStrA.next {W V:World} {v:Value} {l:List ByteArray} (h:SStrA W v l) (hb:Below W.heap.size W V):SStrA V v l:=by
 obtain ⟨ad,c,e,h1⟩:=h
 refine ⟨ad,c,e,?_⟩
 rcases h1 with h1 | ⟨a,e1,e2,e3⟩
 ·exact .inl h1
 ·refine .inr ⟨a,e1,Nat.lt_of_lt_of_le e2 hb.size,fun i hi=>?_⟩
  exact (e3 i hi).of fun p hp=>hb.cell (by rw [hp,add_block];exact e2)
theorem SStrA.sl {W:World} {v:Value} {l:List ByteArray} (h:SStrA W v l):∃ ad c,v=.slice ad l.length c:=by
 obtain ⟨ad,c,e,_⟩:=h
 exact ⟨ad,c,e⟩
theorem SStrA.at {W:World} {v:Value} {l:List ByteArray} (h:SStrA W v l) {i:Nat} (hi:i < l.length):∃ (a:Addr) (c:Nat),v=.slice (some a) l.length c∧a.block < W.heap.size∧StrA W (a.add i) (l.getD i ⟨#[]⟩):=by
 obtain ⟨ad,c,e,h1⟩:=h
 rcases h1 with h1 | ⟨a,e1,e2,e3⟩
 ·rw [h1] at hi;exact absurd hi (Nat.not_lt_zero _)
 ·subst e1
  exact ⟨a,c,e,e2,e3 i hi⟩
def SStrF (g:Nat) (W:World) (l:List ByteArray) (j:Nat):Prop:=∃ cur,W.heap[g]?=some (.cells cur 9 (0,0))∧cur.size=l.length * 1∧∀ i,i < j→cur[i]?=some (.string (l.getD i ⟨#[]⟩))
def SStrR (B:Nat) (W:World) (v:Value) (l:List ByteArray):Prop:=∃ g,v=.slice (some ⟨g,0,none⟩) l.length l.length∧B≤g∧SStrF g W l l.length
theorem SStrF.keep {g:Nat} {W V:World} {l:List ByteArray} {j:Nat} (h:SStrF g W l j) (hk:∀ i,g≤i→i < W.heap.size→V.heap[i]?=W.heap[i]?):SStrF g V l j:=by
 obtain ⟨cur,h1,h2,h3⟩:=h
 exact ⟨cur,(hk g (Nat.le_refl _) (lt_hp h1)).trans h1,h2,h3⟩
theorem SStrR.keep {B:Nat} {W V:World} {v:Value} {l:List ByteArray} (h:SStrR B W v l) (hk:∀ i,B≤i→i < W.heap.size→V.heap[i]?=W.heap[i]?):SStrR B V v l:=by
 obtain ⟨g,e,hg,h1⟩:=h
 exact ⟨g,e,hg,h1.keep fun i hi hj=>hk i (by omega) hj⟩
theorem SStrR.next {B:Nat} {W V:World} {v:Value} {l:List ByteArray} (h:SStrR B W v l) (hb:Below W.heap.size W V):SStrR B V v l:=h.keep fun i _ hj=>hb.block i hj
theorem SStrR.set {B:Nat} {W:World} {v:Value} {l:List ByteArray} (h:SStrR B W v l) {b:Nat} (hb:b < B) (i:Nat) (u:Value):SStrR B (W.setCell ⟨b,i,none⟩ u) v l:=h.keep fun x hx _=>set_other _ _ _ _ _ (by omega)
theorem SStrR.mono {B B':Nat} {W:World} {v:Value} {l:List ByteArray} (h:SStrR B W v l) (hb:B'≤B):SStrR B' W v l:=by
 obtain ⟨g,e,hg,h1⟩:=h
 exact ⟨g,e,Nat.le_trans hb hg,h1⟩
theorem SStrR.sl {B:Nat} {W:World} {v:Value} {l:List ByteArray} (h:SStrR B W v l):∃ g,v=.slice (some ⟨g,0,none⟩) l.length l.length:=by
 obtain ⟨g,e,_⟩:=h
 exact ⟨g,e⟩
theorem SStrR.at {B:Nat} {W:World} {v:Value} {l:List ByteArray} (h:SStrR B W v l) {i:Nat} (hi:i < l.length):∃ g,v=.slice (some ⟨g,0,none⟩) l.length l.length∧B≤g∧g < W.heap.size∧W.cell? ⟨g,i,none⟩=some (.string (l.getD i ⟨#[]⟩)):=by
 obtain ⟨g,e,hg,cur,h1,h2,h3⟩:=h
 exact ⟨g,e,hg,lt_hp h1,(row_cell h1 _).trans (h3 i hi)⟩
theorem SStrF.step {g:Nat} {W:World} {l:List ByteArray} {j:Nat} (h:SStrF g W l j) (hj:j < l.length):SStrF g (W.setCell ⟨g,j,none⟩ (.string (l.getD j ⟨#[]⟩))) l (j+1):=by
 obtain ⟨cur,h1,h2,h3⟩:=h
 refine ⟨_,(set_at (i:=j) (.string (l.getD j ⟨#[]⟩)) h1),by simp [h2],fun i hi=>?_⟩
 by_cases hij:i=j
 ·subst hij
  exact (by rw [Array.getElem?_setIfInBounds_self_of_lt (by first | omega | (simp;omega))])
 ·exact (by rw [Array.getElem?_setIfInBounds_ne (by omega)];exact h3 i (by omega))
theorem SStrF.lt {g:Nat} {W:World} {l:List ByteArray} {j:Nat} (h:SStrF g W l j):g < W.heap.size:=by
 obtain ⟨cur,h1,_⟩:=h
 exact lt_hp h1
theorem SStrF.room {g:Nat} {W:World} {l:List ByteArray} {j:Nat} (h:SStrF g W l j) {i:Nat} (hi:i < l.length * 1):(∃ v,W.cell? ⟨g,i,none⟩=some v)∧W.frozen? ⟨g,i,none⟩=false:=by
 obtain ⟨cur,h1,h2,_⟩:=h
 exact row_room h1 (by omega)
def wSStr (l:List ByteArray):Nat→Nat
 | 0=>0
 | n+1=>wSStr l n+1+(l.getD n ⟨#[]⟩).size
theorem wSStr_ge (l:List ByteArray) (n:Nat):n≤wSStr l n:=by
 induction n with
 | zero=>exact Nat.le_refl _
 | succ n ih=>simp only [wSStr];omega
theorem wSStr_mono (l:List ByteArray) {j n:Nat} (h:j≤n):wSStr l j≤wSStr l n:=by
 induction h with
 | refl=>exact Nat.le_refl _
 | step _ ih=>simp only [wSStr];omega
theorem wSStr_at (l:List ByteArray) {n m:Nat} (h:n < m):wSStr l n+1+(l.getD n ⟨#[]⟩).size≤wSStr l m:=wSStr_mono l (Nat.succ_le_of_lt h)
def OkStrS (l:List ByteArray):Prop:=l.length≤maxLen∧∀ i,i < l.length→(l.getD i ⟨#[]⟩).size≤maxLen
def LoStrS (l:List ByteArray):Prop:=l.length≤1048576
theorem loStrS_of {l:List ByteArray} (h:wSStr l l.length≤1048576):LoStrS l:=Nat.le_trans (wSStr_ge l _) h
def InA (W:World) (a:Addr) (x:C.In):Prop:=W.cell? a=some (.int .i64 x.op)∧W.cell? ⟨a.block,a.off+1,none⟩=some (.int .i64 x.a)∧W.cell? ⟨a.block,a.off+2,none⟩=some (.int .i64 x.n)∧W.cell? ⟨a.block,a.off+3,none⟩=some (.string x.text)
theorem InA.of {W V:World} {a:Addr} {x:C.In} (h:InA W a x) (hk:∀ p:Addr,p.block=a.block→V.cell? p=W.cell? p):InA V a x:=by
 obtain ⟨h0,h1,h2,h3⟩:=h
 exact ⟨(hk _ rfl).trans h0,(hk ⟨_,_,none⟩ rfl).trans h1,(hk ⟨_,_,none⟩ rfl).trans h2,(hk ⟨_,_,none⟩ rfl).trans h3⟩
def SInA (W:World) (v:Value) (l:List C.In):Prop:=∃ (ad:Option Addr) (c:Nat),v=.slice ad l.length c∧(l=[]∨∃ a:Addr,ad=some a∧a.block < W.heap.size∧∀ i,i < l.length→InA W (a.add (i * 4)) (l.getD i C.in0))
theorem SInA.next {W V:World} {v:Value} {l:List C.In} (h:SInA W v l) (hb:Below W.heap.size W V):SInA V v l:=by
 obtain ⟨ad,c,e,h1⟩:=h
 refine ⟨ad,c,e,?_⟩
 rcases h1 with h1 | ⟨a,e1,e2,e3⟩
 ·exact .inl h1
 ·refine .inr ⟨a,e1,Nat.lt_of_lt_of_le e2 hb.size,fun i hi=>?_⟩
  exact (e3 i hi).of fun p hp=>hb.cell (by rw [hp,add_block];exact e2)
theorem SInA.sl {W:World} {v:Value} {l:List C.In} (h:SInA W v l):∃ ad c,v=.slice ad l.length c:=by
 obtain ⟨ad,c,e,_⟩:=h
 exact ⟨ad,c,e⟩
theorem SInA.at {W:World} {v:Value} {l:List C.In} (h:SInA W v l) {i:Nat} (hi:i < l.length):∃ (a:Addr) (c:Nat),v=.slice (some a) l.length c∧a.block < W.heap.size∧InA W (a.add (i * 4)) (l.getD i C.in0):=by
 obtain ⟨ad,c,e,h1⟩:=h
 rcases h1 with h1 | ⟨a,e1,e2,e3⟩
 ·rw [h1] at hi;exact absurd hi (Nat.not_lt_zero _)
 ·subst e1
  exact ⟨a,c,e,e2,e3 i hi⟩
def SInF (g:Nat) (W:World) (l:List C.In) (j:Nat):Prop:=∃ cur,W.heap[g]?=some (.cells cur 103 (0,0))∧cur.size=l.length * 4∧∀ i,i < j→cur[i * 4]?=some (.int .i64 (l.getD i C.in0).op)∧cur[i * 4+1]?=some (.int .i64 (l.getD i C.in0).a)∧cur[i * 4+2]?=some (.int .i64 (l.getD i C.in0).n)∧cur[i * 4+3]?=some (.string (l.getD i C.in0).text)
def SInR (B:Nat) (W:World) (v:Value) (l:List C.In):Prop:=∃ g,v=.slice (some ⟨g,0,none⟩) l.length l.length∧B≤g∧SInF g W l l.length
theorem SInF.keep {g:Nat} {W V:World} {l:List C.In} {j:Nat} (h:SInF g W l j) (hk:∀ i,g≤i→i < W.heap.size→V.heap[i]?=W.heap[i]?):SInF g V l j:=by
 obtain ⟨cur,h1,h2,h3⟩:=h
 exact ⟨cur,(hk g (Nat.le_refl _) (lt_hp h1)).trans h1,h2,h3⟩
theorem SInR.keep {B:Nat} {W V:World} {v:Value} {l:List C.In} (h:SInR B W v l) (hk:∀ i,B≤i→i < W.heap.size→V.heap[i]?=W.heap[i]?):SInR B V v l:=by
 obtain ⟨g,e,hg,h1⟩:=h
 exact ⟨g,e,hg,h1.keep fun i hi hj=>hk i (by omega) hj⟩
theorem SInR.next {B:Nat} {W V:World} {v:Value} {l:List C.In} (h:SInR B W v l) (hb:Below W.heap.size W V):SInR B V v l:=h.keep fun i _ hj=>hb.block i hj
theorem SInR.set {B:Nat} {W:World} {v:Value} {l:List C.In} (h:SInR B W v l) {b:Nat} (hb:b < B) (i:Nat) (u:Value):SInR B (W.setCell ⟨b,i,none⟩ u) v l:=h.keep fun x hx _=>set_other _ _ _ _ _ (by omega)
theorem SInR.mono {B B':Nat} {W:World} {v:Value} {l:List C.In} (h:SInR B W v l) (hb:B'≤B):SInR B' W v l:=by
 obtain ⟨g,e,hg,h1⟩:=h
 exact ⟨g,e,Nat.le_trans hb hg,h1⟩
theorem SInR.sl {B:Nat} {W:World} {v:Value} {l:List C.In} (h:SInR B W v l):∃ g,v=.slice (some ⟨g,0,none⟩) l.length l.length:=by
 obtain ⟨g,e,_⟩:=h
 exact ⟨g,e⟩
theorem SInR.at {B:Nat} {W:World} {v:Value} {l:List C.In} (h:SInR B W v l) {i:Nat} (hi:i < l.length):∃ g,v=.slice (some ⟨g,0,none⟩) l.length l.length∧B≤g∧g < W.heap.size∧W.cell? ⟨g,i * 4,none⟩=some (.int .i64 (l.getD i C.in0).op)∧W.cell? ⟨g,i * 4+1,none⟩=some (.int .i64 (l.getD i C.in0).a)∧W.cell? ⟨g,i * 4+2,none⟩=some (.int .i64 (l.getD i C.in0).n)∧W.cell? ⟨g,i * 4+3,none⟩=some (.string (l.getD i C.in0).text):=by
 obtain ⟨g,e,hg,cur,h1,h2,h3⟩:=h
 obtain ⟨d0,d1,d2,d3⟩:=h3 i hi
 exact ⟨g,e,hg,lt_hp h1,(row_cell h1 _).trans d0,(row_cell h1 _).trans d1,(row_cell h1 _).trans d2,(row_cell h1 _).trans d3⟩
theorem SInF.step {g:Nat} {W:World} {l:List C.In} {j:Nat} (h:SInF g W l j) (hj:j < l.length):SInF g ((((W.setCell ⟨g,j * 4,none⟩ (.int .i64 (l.getD j C.in0).op)).setCell ⟨g,j * 4+1,none⟩ (.int .i64 (l.getD j C.in0).a)).setCell ⟨g,j * 4+2,none⟩ (.int .i64 (l.getD j C.in0).n)).setCell ⟨g,j * 4+3,none⟩ (.string (l.getD j C.in0).text)) l (j+1):=by
 obtain ⟨cur,h1,h2,h3⟩:=h
 refine ⟨_,(set_at (i:=j * 4+3) (.string (l.getD j C.in0).text) (set_at (i:=j * 4+2) (.int .i64 (l.getD j C.in0).n) (set_at (i:=j * 4+1) (.int .i64 (l.getD j C.in0).a) (set_at (i:=j * 4) (.int .i64 (l.getD j C.in0).op) h1)))),by simp [h2],fun i hi=>?_⟩
 by_cases hij:i=j
 ·subst hij
  exact ⟨(by rw [Array.getElem?_setIfInBounds_ne (by omega),Array.getElem?_setIfInBounds_ne (by omega),Array.getElem?_setIfInBounds_ne (by omega),Array.getElem?_setIfInBounds_self_of_lt (by first | omega | (simp;omega))]),(by rw [Array.getElem?_setIfInBounds_ne (by omega),Array.getElem?_setIfInBounds_ne (by omega),Array.getElem?_setIfInBounds_self_of_lt (by first | omega | (simp;omega))]),(by rw [Array.getElem?_setIfInBounds_ne (by omega),Array.getElem?_setIfInBounds_self_of_lt (by first | omega | (simp;omega))]),(by rw [Array.getElem?_setIfInBounds_self_of_lt (by first | omega | (simp;omega))])⟩
 ·obtain ⟨d0,d1,d2,d3⟩:=h3 i (by omega)
  exact ⟨(by rw [Array.getElem?_setIfInBounds_ne (by omega),Array.getElem?_setIfInBounds_ne (by omega),Array.getElem?_setIfInBounds_ne (by omega),Array.getElem?_setIfInBounds_ne (by omega)];exact d0),(by rw [Array.getElem?_setIfInBounds_ne (by omega),Array.getElem?_setIfInBounds_ne (by omega),Array.getElem?_setIfInBounds_ne (by omega),Array.getElem?_setIfInBounds_ne (by omega)];exact d1),(by rw [Array.getElem?_setIfInBounds_ne (by omega),Array.getElem?_setIfInBounds_ne (by omega),Array.getElem?_setIfInBounds_ne (by omega),Array.getElem?_setIfInBounds_ne (by omega)];exact d2),(by rw [Array.getElem?_setIfInBounds_ne (by omega),Array.getElem?_setIfInBounds_ne (by omega),Array.getElem?_setIfInBounds_ne (by omega),Array.getElem?_setIfInBounds_ne (by omega)];exact d3)⟩
theorem SInF.lt {g:Nat} {W:World} {l:List C.In} {j:Nat} (h:SInF g W l j):g < W.heap.size:=by
 obtain ⟨cur,h1,_⟩:=h
 exact lt_hp h1
theorem SInF.room {g:Nat} {W:World} {l:List C.In} {j:Nat} (h:SInF g W l j) {i:Nat} (hi:i < l.length * 4):(∃ v,W.cell? ⟨g,i,none⟩=some v)∧W.frozen? ⟨g,i,none⟩=false:=by
 obtain ⟨cur,h1,h2,_⟩:=h
 exact row_room h1 (by omega)
def wIn (x:C.In):Nat:=x.text.size
def OkIn (x:C.In):Prop:=(-9223372036854775808≤x.op∧x.op≤9223372036854775807)∧(-9223372036854775808≤x.a∧x.a≤9223372036854775807)∧(-9223372036854775808≤x.n∧x.n≤9223372036854775807)∧x.text.size≤maxLen
def LoIn (x:C.In):Prop:=x=x
def wSIn (l:List C.In):Nat→Nat
 | 0=>0
 | n+1=>wSIn l n+1+wIn (l.getD n C.in0)
theorem wSIn_ge (l:List C.In) (n:Nat):n≤wSIn l n:=by
 induction n with
 | zero=>exact Nat.le_refl _
 | succ n ih=>simp only [wSIn];omega
theorem wSIn_mono (l:List C.In) {j n:Nat} (h:j≤n):wSIn l j≤wSIn l n:=by
 induction h with
 | refl=>exact Nat.le_refl _
 | step _ ih=>simp only [wSIn];omega
theorem wSIn_at (l:List C.In) {n m:Nat} (h:n < m):wSIn l n+1+wIn (l.getD n C.in0)≤wSIn l m:=wSIn_mono l (Nat.succ_le_of_lt h)
def OkInS (l:List C.In):Prop:=l.length≤maxLen∧∀ i,i < l.length→OkIn (l.getD i C.in0)
def LoInS (l:List C.In):Prop:=l.length≤1048576∧∀ i,i < l.length→LoIn (l.getD i C.in0)
theorem loIn_of {x:C.In} (_h:wIn x≤1048576):LoIn x:=rfl
theorem loInS_of {l:List C.In} (h:wSIn l l.length≤1048576):LoInS l:=⟨Nat.le_trans (wSIn_ge l _) h,fun i hi=>loIn_of (by have:=wSIn_at l hi;omega)⟩
def FnA (W:World) (a:Addr) (x:C.Fn) (v0 v1:Value):Prop:=W.cell? a=some (.string x.name)∧W.cell? ⟨a.block,a.off+1,none⟩=some (v0)∧W.cell? ⟨a.block,a.off+2,none⟩=some (.int .i64 x.result)∧W.cell? ⟨a.block,a.off+3,none⟩=some (.int .i64 x.slots)∧W.cell? ⟨a.block,a.off+4,none⟩=some (v1)
theorem FnA.of {W V:World} {a:Addr} {x:C.Fn} {v0 v1:Value} (h:FnA W a x v0 v1) (hk:∀ p:Addr,p.block=a.block→V.cell? p=W.cell? p):FnA V a x v0 v1:=by
 obtain ⟨h0,h1,h2,h3,h4⟩:=h
 exact ⟨(hk _ rfl).trans h0,(hk ⟨_,_,none⟩ rfl).trans h1,(hk ⟨_,_,none⟩ rfl).trans h2,(hk ⟨_,_,none⟩ rfl).trans h3,(hk ⟨_,_,none⟩ rfl).trans h4⟩
def SFnA (W:World) (v:Value) (l:List C.Fn):Prop:=∃ (ad:Option Addr) (c:Nat),v=.slice ad l.length c∧(l=[]∨∃ a:Addr,ad=some a∧a.block < W.heap.size∧∀ i,i < l.length→∃ v0 v1,FnA W (a.add (i * 5)) (l.getD i C.fn0) v0 v1∧SIntA W v0 (l.getD i C.fn0).params∧SInA W v1 (l.getD i C.fn0).ins)
theorem SFnA.next {W V:World} {v:Value} {l:List C.Fn} (h:SFnA W v l) (hb:Below W.heap.size W V):SFnA V v l:=by
 obtain ⟨ad,c,e,h1⟩:=h
 refine ⟨ad,c,e,?_⟩
 rcases h1 with h1 | ⟨a,e1,e2,e3⟩
 ·exact .inl h1
 ·refine .inr ⟨a,e1,Nat.lt_of_lt_of_le e2 hb.size,fun i hi=>?_⟩
  obtain ⟨v0,v1,c0,r0,r1⟩:=e3 i hi
  exact ⟨v0,v1,c0.of fun p hp=>hb.cell (by rw [hp,add_block];exact e2),r0.next hb,r1.next hb⟩
theorem SFnA.sl {W:World} {v:Value} {l:List C.Fn} (h:SFnA W v l):∃ ad c,v=.slice ad l.length c:=by
 obtain ⟨ad,c,e,_⟩:=h
 exact ⟨ad,c,e⟩
theorem SFnA.at {W:World} {v:Value} {l:List C.Fn} (h:SFnA W v l) {i:Nat} (hi:i < l.length):∃ (a:Addr) (c:Nat),v=.slice (some a) l.length c∧a.block < W.heap.size∧∃ v0 v1,FnA W (a.add (i * 5)) (l.getD i C.fn0) v0 v1∧SIntA W v0 (l.getD i C.fn0).params∧SInA W v1 (l.getD i C.fn0).ins:=by
 obtain ⟨ad,c,e,h1⟩:=h
 rcases h1 with h1 | ⟨a,e1,e2,e3⟩
 ·rw [h1] at hi;exact absurd hi (Nat.not_lt_zero _)
 ·subst e1
  exact ⟨a,c,e,e2,e3 i hi⟩
def SFnF (g:Nat) (W:World) (l:List C.Fn) (j:Nat):Prop:=∃ cur,W.heap[g]?=some (.cells cur 125 (0,0))∧cur.size=l.length * 5∧∀ i,i < j→∃ v0 v1,cur[i * 5]?=some (.string (l.getD i C.fn0).name)∧cur[i * 5+1]?=some (v0)∧cur[i * 5+2]?=some (.int .i64 (l.getD i C.fn0).result)∧cur[i * 5+3]?=some (.int .i64 (l.getD i C.fn0).slots)∧cur[i * 5+4]?=some (v1)∧SIntR (g+1) W v0 (l.getD i C.fn0).params∧SInR (g+1) W v1 (l.getD i C.fn0).ins
def SFnR (B:Nat) (W:World) (v:Value) (l:List C.Fn):Prop:=∃ g,v=.slice (some ⟨g,0,none⟩) l.length l.length∧B≤g∧SFnF g W l l.length
theorem SFnF.keep {g:Nat} {W V:World} {l:List C.Fn} {j:Nat} (h:SFnF g W l j) (hk:∀ i,g≤i→i < W.heap.size→V.heap[i]?=W.heap[i]?):SFnF g V l j:=by
 obtain ⟨cur,h1,h2,h3⟩:=h
 refine ⟨cur,(hk g (Nat.le_refl _) (lt_hp h1)).trans h1,h2,fun i hi=>?_⟩
 obtain ⟨v0,v1,d0,d1,d2,d3,d4,r0,r1⟩:=h3 i hi
 exact ⟨v0,v1,d0,d1,d2,d3,d4,r0.keep fun x hx hy=>hk x (by omega) hy,r1.keep fun x hx hy=>hk x (by omega) hy⟩
theorem SFnR.keep {B:Nat} {W V:World} {v:Value} {l:List C.Fn} (h:SFnR B W v l) (hk:∀ i,B≤i→i < W.heap.size→V.heap[i]?=W.heap[i]?):SFnR B V v l:=by
 obtain ⟨g,e,hg,h1⟩:=h
 exact ⟨g,e,hg,h1.keep fun i hi hj=>hk i (by omega) hj⟩
theorem SFnR.next {B:Nat} {W V:World} {v:Value} {l:List C.Fn} (h:SFnR B W v l) (hb:Below W.heap.size W V):SFnR B V v l:=h.keep fun i _ hj=>hb.block i hj
theorem SFnR.set {B:Nat} {W:World} {v:Value} {l:List C.Fn} (h:SFnR B W v l) {b:Nat} (hb:b < B) (i:Nat) (u:Value):SFnR B (W.setCell ⟨b,i,none⟩ u) v l:=h.keep fun x hx _=>set_other _ _ _ _ _ (by omega)
theorem SFnR.mono {B B':Nat} {W:World} {v:Value} {l:List C.Fn} (h:SFnR B W v l) (hb:B'≤B):SFnR B' W v l:=by
 obtain ⟨g,e,hg,h1⟩:=h
 exact ⟨g,e,Nat.le_trans hb hg,h1⟩
theorem SFnR.sl {B:Nat} {W:World} {v:Value} {l:List C.Fn} (h:SFnR B W v l):∃ g,v=.slice (some ⟨g,0,none⟩) l.length l.length:=by
 obtain ⟨g,e,_⟩:=h
 exact ⟨g,e⟩
theorem SFnR.at {B:Nat} {W:World} {v:Value} {l:List C.Fn} (h:SFnR B W v l) {i:Nat} (hi:i < l.length):∃ g,v=.slice (some ⟨g,0,none⟩) l.length l.length∧B≤g∧g < W.heap.size∧∃ v0 v1,W.cell? ⟨g,i * 5,none⟩=some (.string (l.getD i C.fn0).name)∧W.cell? ⟨g,i * 5+1,none⟩=some (v0)∧W.cell? ⟨g,i * 5+2,none⟩=some (.int .i64 (l.getD i C.fn0).result)∧W.cell? ⟨g,i * 5+3,none⟩=some (.int .i64 (l.getD i C.fn0).slots)∧W.cell? ⟨g,i * 5+4,none⟩=some (v1)∧SIntR (g+1) W v0 (l.getD i C.fn0).params∧SInR (g+1) W v1 (l.getD i C.fn0).ins:=by
 obtain ⟨g,e,hg,cur,h1,h2,h3⟩:=h
 obtain ⟨v0,v1,d0,d1,d2,d3,d4,r0,r1⟩:=h3 i hi
 exact ⟨g,e,hg,lt_hp h1,v0,v1,(row_cell h1 _).trans d0,(row_cell h1 _).trans d1,(row_cell h1 _).trans d2,(row_cell h1 _).trans d3,(row_cell h1 _).trans d4,r0,r1⟩
theorem SFnF.step {g:Nat} {W:World} {l:List C.Fn} {j:Nat} (h:SFnF g W l j) (hj:j < l.length) {u0:Value} {u1:Value} (k0:SIntR (g+1) W u0 (l.getD j C.fn0).params) (k1:SInR (g+1) W u1 (l.getD j C.fn0).ins):SFnF g (((((W.setCell ⟨g,j * 5,none⟩ (.string (l.getD j C.fn0).name)).setCell ⟨g,j * 5+1,none⟩ u0).setCell ⟨g,j * 5+2,none⟩ (.int .i64 (l.getD j C.fn0).result)).setCell ⟨g,j * 5+3,none⟩ (.int .i64 (l.getD j C.fn0).slots)).setCell ⟨g,j * 5+4,none⟩ u1) l (j+1):=by
 obtain ⟨cur,h1,h2,h3⟩:=h
 refine ⟨_,(set_at (i:=j * 5+4) u1 (set_at (i:=j * 5+3) (.int .i64 (l.getD j C.fn0).slots) (set_at (i:=j * 5+2) (.int .i64 (l.getD j C.fn0).result) (set_at (i:=j * 5+1) u0 (set_at (i:=j * 5) (.string (l.getD j C.fn0).name) h1))))),by simp [h2],fun i hi=>?_⟩
 by_cases hij:i=j
 ·subst hij
  exact ⟨u0,u1,(by rw [Array.getElem?_setIfInBounds_ne (by omega),Array.getElem?_setIfInBounds_ne (by omega),Array.getElem?_setIfInBounds_ne (by omega),Array.getElem?_setIfInBounds_ne (by omega),Array.getElem?_setIfInBounds_self_of_lt (by first | omega | (simp;omega))]),(by rw [Array.getElem?_setIfInBounds_ne (by omega),Array.getElem?_setIfInBounds_ne (by omega),Array.getElem?_setIfInBounds_ne (by omega),Array.getElem?_setIfInBounds_self_of_lt (by first | omega | (simp;omega))]),(by rw [Array.getElem?_setIfInBounds_ne (by omega),Array.getElem?_setIfInBounds_ne (by omega),Array.getElem?_setIfInBounds_self_of_lt (by first | omega | (simp;omega))]),(by rw [Array.getElem?_setIfInBounds_ne (by omega),Array.getElem?_setIfInBounds_self_of_lt (by first | omega | (simp;omega))]),(by rw [Array.getElem?_setIfInBounds_self_of_lt (by first | omega | (simp;omega))]),(((((k0.set (by omega) _ _).set (by omega) _ _).set (by omega) _ _).set (by omega) _ _).set (by omega) _ _),(((((k1.set (by omega) _ _).set (by omega) _ _).set (by omega) _ _).set (by omega) _ _).set (by omega) _ _)⟩
 ·obtain ⟨v0,v1,d0,d1,d2,d3,d4,r0,r1⟩:=h3 i (by omega)
  exact ⟨v0,v1,(by rw [Array.getElem?_setIfInBounds_ne (by omega),Array.getElem?_setIfInBounds_ne (by omega),Array.getElem?_setIfInBounds_ne (by omega),Array.getElem?_setIfInBounds_ne (by omega),Array.getElem?_setIfInBounds_ne (by omega)];exact d0),(by rw [Array.getElem?_setIfInBounds_ne (by omega),Array.getElem?_setIfInBounds_ne (by omega),Array.getElem?_setIfInBounds_ne (by omega),Array.getElem?_setIfInBounds_ne (by omega),Array.getElem?_setIfInBounds_ne (by omega)];exact d1),(by rw [Array.getElem?_setIfInBounds_ne (by omega),Array.getElem?_setIfInBounds_ne (by omega),Array.getElem?_setIfInBounds_ne (by omega),Array.getElem?_setIfInBounds_ne (by omega),Array.getElem?_setIfInBounds_ne (by omega)];exact d2),(by rw [Array.getElem?_setIfInBounds_ne (by omega),Array.getElem?_setIfInBounds_ne (by omega),Array.getElem?_setIfInBounds_ne (by omega),Array.getElem?_setIfInBounds_ne (by omega),Array.getElem?_setIfInBounds_ne (by omega)];exact d3),(by rw [Array.getElem?_setIfInBounds_ne (by omega),Array.getElem?_setIfInBounds_ne (by omega),Array.getElem?_setIfInBounds_ne (by omega),Array.getElem?_setIfInBounds_ne (by omega),Array.getElem?_setIfInBounds_ne (by omega)];exact d4),(((((r0.set (by omega) _ _).set (by omega) _ _).set (by omega) _ _).set (by omega) _ _).set (by omega) _ _),(((((r1.set (by omega) _ _).set (by omega) _ _).set (by omega) _ _).set (by omega) _ _).set (by omega) _ _)⟩
theorem SFnF.lt {g:Nat} {W:World} {l:List C.Fn} {j:Nat} (h:SFnF g W l j):g < W.heap.size:=by
 obtain ⟨cur,h1,_⟩:=h
 exact lt_hp h1
theorem SFnF.room {g:Nat} {W:World} {l:List C.Fn} {j:Nat} (h:SFnF g W l j) {i:Nat} (hi:i < l.length * 5):(∃ v,W.cell? ⟨g,i,none⟩=some v)∧W.frozen? ⟨g,i,none⟩=false:=by
 obtain ⟨cur,h1,h2,_⟩:=h
 exact row_room h1 (by omega)
def wFn (x:C.Fn):Nat:=x.name.size+x.params.length+wSIn x.ins x.ins.length
def OkFn (x:C.Fn):Prop:=x.name.size≤maxLen∧x.params.length≤maxLen∧(-9223372036854775808≤x.result∧x.result≤9223372036854775807)∧(-9223372036854775808≤x.slots∧x.slots≤9223372036854775807)∧OkInS x.ins
def LoFn (x:C.Fn):Prop:=x.params.length≤1048576∧LoInS x.ins
def wSFn (l:List C.Fn):Nat→Nat
 | 0=>0
 | n+1=>wSFn l n+1+wFn (l.getD n C.fn0)
theorem wSFn_ge (l:List C.Fn) (n:Nat):n≤wSFn l n:=by
 induction n with
 | zero=>exact Nat.le_refl _
 | succ n ih=>simp only [wSFn];omega
theorem wSFn_mono (l:List C.Fn) {j n:Nat} (h:j≤n):wSFn l j≤wSFn l n:=by
 induction h with
 | refl=>exact Nat.le_refl _
 | step _ ih=>simp only [wSFn];omega
theorem wSFn_at (l:List C.Fn) {n m:Nat} (h:n < m):wSFn l n+1+wFn (l.getD n C.fn0)≤wSFn l m:=wSFn_mono l (Nat.succ_le_of_lt h)
def OkFnS (l:List C.Fn):Prop:=l.length≤maxLen∧∀ i,i < l.length→OkFn (l.getD i C.fn0)
def LoFnS (l:List C.Fn):Prop:=l.length≤1048576∧∀ i,i < l.length→LoFn (l.getD i C.fn0)
theorem loFn_of {x:C.Fn} (h:wFn x≤1048576):LoFn x:=by
 simp only [wFn] at h
 exact ⟨by omega,loInS_of (by omega)⟩
theorem loFnS_of {l:List C.Fn} (h:wSFn l l.length≤1048576):LoFnS l:=⟨Nat.le_trans (wSFn_ge l _) h,fun i hi=>loFn_of (by have:=wSFn_at l hi;omega)⟩
structure Cd where
 fns:List C.Fn
def cd0:Cd:=⟨[]⟩
def CdA (W:World) (a:Addr) (_x:Cd) (v0:Value):Prop:=W.cell? a=some (v0)
theorem CdA.of {W V:World} {a:Addr} {x:Cd} {v0:Value} (h:CdA W a x v0) (hk:∀ p:Addr,p.block=a.block→V.cell? p=W.cell? p):CdA V a x v0:=by
 exact (hk _ rfl).trans h
def SCdA (W:World) (v:Value) (l:List Cd):Prop:=∃ (ad:Option Addr) (c:Nat),v=.slice ad l.length c∧(l=[]∨∃ a:Addr,ad=some a∧a.block < W.heap.size∧∀ i,i < l.length→∃ v0,CdA W (a.add i) (l.getD i cd0) v0∧SFnA W v0 (l.getD i cd0).fns)
theorem SCdA.next {W V:World} {v:Value} {l:List Cd} (h:SCdA W v l) (hb:Below W.heap.size W V):SCdA V v l:=by
 obtain ⟨ad,c,e,h1⟩:=h
 refine ⟨ad,c,e,?_⟩
 rcases h1 with h1 | ⟨a,e1,e2,e3⟩
 ·exact .inl h1
 ·refine .inr ⟨a,e1,Nat.lt_of_lt_of_le e2 hb.size,fun i hi=>?_⟩
  obtain ⟨v0,c0,r0⟩:=e3 i hi
  exact ⟨v0,c0.of fun p hp=>hb.cell (by rw [hp,add_block];exact e2),r0.next hb⟩
theorem SCdA.sl {W:World} {v:Value} {l:List Cd} (h:SCdA W v l):∃ ad c,v=.slice ad l.length c:=by
 obtain ⟨ad,c,e,_⟩:=h
 exact ⟨ad,c,e⟩
theorem SCdA.at {W:World} {v:Value} {l:List Cd} (h:SCdA W v l) {i:Nat} (hi:i < l.length):∃ (a:Addr) (c:Nat),v=.slice (some a) l.length c∧a.block < W.heap.size∧∃ v0,CdA W (a.add i) (l.getD i cd0) v0∧SFnA W v0 (l.getD i cd0).fns:=by
 obtain ⟨ad,c,e,h1⟩:=h
 rcases h1 with h1 | ⟨a,e1,e2,e3⟩
 ·rw [h1] at hi;exact absurd hi (Nat.not_lt_zero _)
 ·subst e1
  exact ⟨a,c,e,e2,e3 i hi⟩
def SCdF (g:Nat) (W:World) (l:List Cd) (j:Nat):Prop:=∃ cur,W.heap[g]?=some (.cells cur 59 (0,0))∧cur.size=l.length * 1∧∀ i,i < j→∃ v0,cur[i]?=some (v0)∧SFnR (g+1) W v0 (l.getD i cd0).fns
def SCdR (B:Nat) (W:World) (v:Value) (l:List Cd):Prop:=∃ g,v=.slice (some ⟨g,0,none⟩) l.length l.length∧B≤g∧SCdF g W l l.length
theorem SCdF.keep {g:Nat} {W V:World} {l:List Cd} {j:Nat} (h:SCdF g W l j) (hk:∀ i,g≤i→i < W.heap.size→V.heap[i]?=W.heap[i]?):SCdF g V l j:=by
 obtain ⟨cur,h1,h2,h3⟩:=h
 refine ⟨cur,(hk g (Nat.le_refl _) (lt_hp h1)).trans h1,h2,fun i hi=>?_⟩
 obtain ⟨v0,d0,r0⟩:=h3 i hi
 exact ⟨v0,d0,r0.keep fun x hx hy=>hk x (by omega) hy⟩
theorem SCdR.keep {B:Nat} {W V:World} {v:Value} {l:List Cd} (h:SCdR B W v l) (hk:∀ i,B≤i→i < W.heap.size→V.heap[i]?=W.heap[i]?):SCdR B V v l:=by
 obtain ⟨g,e,hg,h1⟩:=h
 exact ⟨g,e,hg,h1.keep fun i hi hj=>hk i (by omega) hj⟩
theorem SCdR.next {B:Nat} {W V:World} {v:Value} {l:List Cd} (h:SCdR B W v l) (hb:Below W.heap.size W V):SCdR B V v l:=h.keep fun i _ hj=>hb.block i hj
theorem SCdR.set {B:Nat} {W:World} {v:Value} {l:List Cd} (h:SCdR B W v l) {b:Nat} (hb:b < B) (i:Nat) (u:Value):SCdR B (W.setCell ⟨b,i,none⟩ u) v l:=h.keep fun x hx _=>set_other _ _ _ _ _ (by omega)
theorem SCdR.mono {B B':Nat} {W:World} {v:Value} {l:List Cd} (h:SCdR B W v l) (hb:B'≤B):SCdR B' W v l:=by
 obtain ⟨g,e,hg,h1⟩:=h
 exact ⟨g,e,Nat.le_trans hb hg,h1⟩
theorem SCdR.sl {B:Nat} {W:World} {v:Value} {l:List Cd} (h:SCdR B W v l):∃ g,v=.slice (some ⟨g,0,none⟩) l.length l.length:=by
 obtain ⟨g,e,_⟩:=h
 exact ⟨g,e⟩
theorem SCdR.at {B:Nat} {W:World} {v:Value} {l:List Cd} (h:SCdR B W v l) {i:Nat} (hi:i < l.length):∃ g,v=.slice (some ⟨g,0,none⟩) l.length l.length∧B≤g∧g < W.heap.size∧∃ v0,W.cell? ⟨g,i,none⟩=some (v0)∧SFnR (g+1) W v0 (l.getD i cd0).fns:=by
 obtain ⟨g,e,hg,cur,h1,h2,h3⟩:=h
 obtain ⟨v0,d0,r0⟩:=h3 i hi
 exact ⟨g,e,hg,lt_hp h1,v0,(row_cell h1 _).trans d0,r0⟩
theorem SCdF.step {g:Nat} {W:World} {l:List Cd} {j:Nat} (h:SCdF g W l j) (hj:j < l.length) {u0:Value} (k0:SFnR (g+1) W u0 (l.getD j cd0).fns):SCdF g (W.setCell ⟨g,j,none⟩ u0) l (j+1):=by
 obtain ⟨cur,h1,h2,h3⟩:=h
 refine ⟨_,(set_at (i:=j) u0 h1),by simp [h2],fun i hi=>?_⟩
 by_cases hij:i=j
 ·subst hij
  exact ⟨u0,(by rw [Array.getElem?_setIfInBounds_self_of_lt (by first | omega | (simp;omega))]),(k0.set (by omega) _ _)⟩
 ·obtain ⟨v0,d0,r0⟩:=h3 i (by omega)
  exact ⟨v0,(by rw [Array.getElem?_setIfInBounds_ne (by omega)];exact d0),(r0.set (by omega) _ _)⟩
theorem SCdF.lt {g:Nat} {W:World} {l:List Cd} {j:Nat} (h:SCdF g W l j):g < W.heap.size:=by
 obtain ⟨cur,h1,_⟩:=h
 exact lt_hp h1
theorem SCdF.room {g:Nat} {W:World} {l:List Cd} {j:Nat} (h:SCdF g W l j) {i:Nat} (hi:i < l.length * 1):(∃ v,W.cell? ⟨g,i,none⟩=some v)∧W.frozen? ⟨g,i,none⟩=false:=by
 obtain ⟨cur,h1,h2,_⟩:=h
 exact row_room h1 (by omega)
def wCd (x:Cd):Nat:=wSFn x.fns x.fns.length
def OkCd (x:Cd):Prop:=OkFnS x.fns
def LoCd (x:Cd):Prop:=LoFnS x.fns
def wSCd (l:List Cd):Nat→Nat
 | 0=>0
 | n+1=>wSCd l n+1+wCd (l.getD n cd0)
theorem wSCd_ge (l:List Cd) (n:Nat):n≤wSCd l n:=by
 induction n with
 | zero=>exact Nat.le_refl _
 | succ n ih=>simp only [wSCd];omega
theorem wSCd_mono (l:List Cd) {j n:Nat} (h:j≤n):wSCd l j≤wSCd l n:=by
 induction h with
 | refl=>exact Nat.le_refl _
 | step _ ih=>simp only [wSCd];omega
theorem wSCd_at (l:List Cd) {n m:Nat} (h:n < m):wSCd l n+1+wCd (l.getD n cd0)≤wSCd l m:=wSCd_mono l (Nat.succ_le_of_lt h)
def OkCdS (l:List Cd):Prop:=l.length≤maxLen∧∀ i,i < l.length→OkCd (l.getD i cd0)
def LoCdS (l:List Cd):Prop:=l.length≤1048576∧∀ i,i < l.length→LoCd (l.getD i cd0)
theorem loCd_of {x:Cd} (h:wCd x≤1048576):LoCd x:=by
 simp only [wCd] at h
 exact loFnS_of (by omega)
theorem loCdS_of {l:List Cd} (h:wSCd l l.length≤1048576):LoCdS l:=⟨Nat.le_trans (wSCd_ge l _) h,fun i hi=>loCd_of (by have:=wSCd_at l hi;omega)⟩
structure Va where
 ty:Int
 n:Int
 text:ByteArray
def va0:Va:=⟨0,0,⟨#[]⟩⟩
def VaA (W:World) (a:Addr) (x:Va):Prop:=W.cell? a=some (.int .i64 x.ty)∧W.cell? ⟨a.block,a.off+1,none⟩=some (.int .i64 x.n)∧W.cell? ⟨a.block,a.off+2,none⟩=some (.string x.text)
theorem VaA.of {W V:World} {a:Addr} {x:Va} (h:VaA W a x) (hk:∀ p:Addr,p.block=a.block→V.cell? p=W.cell? p):VaA V a x:=by
 obtain ⟨h0,h1,h2⟩:=h
 exact ⟨(hk _ rfl).trans h0,(hk ⟨_,_,none⟩ rfl).trans h1,(hk ⟨_,_,none⟩ rfl).trans h2⟩
def SVaA (W:World) (v:Value) (l:List Va):Prop:=∃ (ad:Option Addr) (c:Nat),v=.slice ad l.length c∧(l=[]∨∃ a:Addr,ad=some a∧a.block < W.heap.size∧∀ i,i < l.length→VaA W (a.add (i * 3)) (l.getD i va0))
theorem SVaA.next {W V:World} {v:Value} {l:List Va} (h:SVaA W v l) (hb:Below W.heap.size W V):SVaA V v l:=by
 obtain ⟨ad,c,e,h1⟩:=h
 refine ⟨ad,c,e,?_⟩
 rcases h1 with h1 | ⟨a,e1,e2,e3⟩
 ·exact .inl h1
 ·refine .inr ⟨a,e1,Nat.lt_of_lt_of_le e2 hb.size,fun i hi=>?_⟩
  exact (e3 i hi).of fun p hp=>hb.cell (by rw [hp,add_block];exact e2)
theorem SVaA.sl {W:World} {v:Value} {l:List Va} (h:SVaA W v l):∃ ad c,v=.slice ad l.length c:=by
 obtain ⟨ad,c,e,_⟩:=h
 exact ⟨ad,c,e⟩
theorem SVaA.at {W:World} {v:Value} {l:List Va} (h:SVaA W v l) {i:Nat} (hi:i < l.length):∃ (a:Addr) (c:Nat),v=.slice (some a) l.length c∧a.block < W.heap.size∧VaA W (a.add (i * 3)) (l.getD i va0):=by
 obtain ⟨ad,c,e,h1⟩:=h
 rcases h1 with h1 | ⟨a,e1,e2,e3⟩
 ·rw [h1] at hi;exact absurd hi (Nat.not_lt_zero _)
 ·subst e1
  exact ⟨a,c,e,e2,e3 i hi⟩
def SVaF (g:Nat) (W:World) (l:List Va) (j:Nat):Prop:=∃ cur,W.heap[g]?=some (.cells cur 127 (0,0))∧cur.size=l.length * 3∧∀ i,i < j→cur[i * 3]?=some (.int .i64 (l.getD i va0).ty)∧cur[i * 3+1]?=some (.int .i64 (l.getD i va0).n)∧cur[i * 3+2]?=some (.string (l.getD i va0).text)
def SVaR (B:Nat) (W:World) (v:Value) (l:List Va):Prop:=∃ g,v=.slice (some ⟨g,0,none⟩) l.length l.length∧B≤g∧SVaF g W l l.length
theorem SVaF.keep {g:Nat} {W V:World} {l:List Va} {j:Nat} (h:SVaF g W l j) (hk:∀ i,g≤i→i < W.heap.size→V.heap[i]?=W.heap[i]?):SVaF g V l j:=by
 obtain ⟨cur,h1,h2,h3⟩:=h
 exact ⟨cur,(hk g (Nat.le_refl _) (lt_hp h1)).trans h1,h2,h3⟩
theorem SVaR.keep {B:Nat} {W V:World} {v:Value} {l:List Va} (h:SVaR B W v l) (hk:∀ i,B≤i→i < W.heap.size→V.heap[i]?=W.heap[i]?):SVaR B V v l:=by
 obtain ⟨g,e,hg,h1⟩:=h
 exact ⟨g,e,hg,h1.keep fun i hi hj=>hk i (by omega) hj⟩
theorem SVaR.next {B:Nat} {W V:World} {v:Value} {l:List Va} (h:SVaR B W v l) (hb:Below W.heap.size W V):SVaR B V v l:=h.keep fun i _ hj=>hb.block i hj
theorem SVaR.set {B:Nat} {W:World} {v:Value} {l:List Va} (h:SVaR B W v l) {b:Nat} (hb:b < B) (i:Nat) (u:Value):SVaR B (W.setCell ⟨b,i,none⟩ u) v l:=h.keep fun x hx _=>set_other _ _ _ _ _ (by omega)
theorem SVaR.mono {B B':Nat} {W:World} {v:Value} {l:List Va} (h:SVaR B W v l) (hb:B'≤B):SVaR B' W v l:=by
 obtain ⟨g,e,hg,h1⟩:=h
 exact ⟨g,e,Nat.le_trans hb hg,h1⟩
theorem SVaR.sl {B:Nat} {W:World} {v:Value} {l:List Va} (h:SVaR B W v l):∃ g,v=.slice (some ⟨g,0,none⟩) l.length l.length:=by
 obtain ⟨g,e,_⟩:=h
 exact ⟨g,e⟩
theorem SVaR.at {B:Nat} {W:World} {v:Value} {l:List Va} (h:SVaR B W v l) {i:Nat} (hi:i < l.length):∃ g,v=.slice (some ⟨g,0,none⟩) l.length l.length∧B≤g∧g < W.heap.size∧W.cell? ⟨g,i * 3,none⟩=some (.int .i64 (l.getD i va0).ty)∧W.cell? ⟨g,i * 3+1,none⟩=some (.int .i64 (l.getD i va0).n)∧W.cell? ⟨g,i * 3+2,none⟩=some (.string (l.getD i va0).text):=by
 obtain ⟨g,e,hg,cur,h1,h2,h3⟩:=h
 obtain ⟨d0,d1,d2⟩:=h3 i hi
 exact ⟨g,e,hg,lt_hp h1,(row_cell h1 _).trans d0,(row_cell h1 _).trans d1,(row_cell h1 _).trans d2⟩
theorem SVaF.step {g:Nat} {W:World} {l:List Va} {j:Nat} (h:SVaF g W l j) (hj:j < l.length):SVaF g (((W.setCell ⟨g,j * 3,none⟩ (.int .i64 (l.getD j va0).ty)).setCell ⟨g,j * 3+1,none⟩ (.int .i64 (l.getD j va0).n)).setCell ⟨g,j * 3+2,none⟩ (.string (l.getD j va0).text)) l (j+1):=by
 obtain ⟨cur,h1,h2,h3⟩:=h
 refine ⟨_,(set_at (i:=j * 3+2) (.string (l.getD j va0).text) (set_at (i:=j * 3+1) (.int .i64 (l.getD j va0).n) (set_at (i:=j * 3) (.int .i64 (l.getD j va0).ty) h1))),by simp [h2],fun i hi=>?_⟩
 by_cases hij:i=j
 ·subst hij
  exact ⟨(by rw [Array.getElem?_setIfInBounds_ne (by omega),Array.getElem?_setIfInBounds_ne (by omega),Array.getElem?_setIfInBounds_self_of_lt (by first | omega | (simp;omega))]),(by rw [Array.getElem?_setIfInBounds_ne (by omega),Array.getElem?_setIfInBounds_self_of_lt (by first | omega | (simp;omega))]),(by rw [Array.getElem?_setIfInBounds_self_of_lt (by first | omega | (simp;omega))])⟩
 ·obtain ⟨d0,d1,d2⟩:=h3 i (by omega)
  exact ⟨(by rw [Array.getElem?_setIfInBounds_ne (by omega),Array.getElem?_setIfInBounds_ne (by omega),Array.getElem?_setIfInBounds_ne (by omega)];exact d0),(by rw [Array.getElem?_setIfInBounds_ne (by omega),Array.getElem?_setIfInBounds_ne (by omega),Array.getElem?_setIfInBounds_ne (by omega)];exact d1),(by rw [Array.getElem?_setIfInBounds_ne (by omega),Array.getElem?_setIfInBounds_ne (by omega),Array.getElem?_setIfInBounds_ne (by omega)];exact d2)⟩
theorem SVaF.lt {g:Nat} {W:World} {l:List Va} {j:Nat} (h:SVaF g W l j):g < W.heap.size:=by
 obtain ⟨cur,h1,_⟩:=h
 exact lt_hp h1
theorem SVaF.room {g:Nat} {W:World} {l:List Va} {j:Nat} (h:SVaF g W l j) {i:Nat} (hi:i < l.length * 3):(∃ v,W.cell? ⟨g,i,none⟩=some v)∧W.frozen? ⟨g,i,none⟩=false:=by
 obtain ⟨cur,h1,h2,_⟩:=h
 exact row_room h1 (by omega)
def wVa (x:Va):Nat:=x.text.size
def OkVa (x:Va):Prop:=(-9223372036854775808≤x.ty∧x.ty≤9223372036854775807)∧(-9223372036854775808≤x.n∧x.n≤9223372036854775807)∧x.text.size≤maxLen
def LoVa (x:Va):Prop:=x=x
def wSVa (l:List Va):Nat→Nat
 | 0=>0
 | n+1=>wSVa l n+1+wVa (l.getD n va0)
theorem wSVa_ge (l:List Va) (n:Nat):n≤wSVa l n:=by
 induction n with
 | zero=>exact Nat.le_refl _
 | succ n ih=>simp only [wSVa];omega
theorem wSVa_mono (l:List Va) {j n:Nat} (h:j≤n):wSVa l j≤wSVa l n:=by
 induction h with
 | refl=>exact Nat.le_refl _
 | step _ ih=>simp only [wSVa];omega
theorem wSVa_at (l:List Va) {n m:Nat} (h:n < m):wSVa l n+1+wVa (l.getD n va0)≤wSVa l m:=wSVa_mono l (Nat.succ_le_of_lt h)
def OkVaS (l:List Va):Prop:=l.length≤maxLen∧∀ i,i < l.length→OkVa (l.getD i va0)
def LoVaS (l:List Va):Prop:=l.length≤1048576∧∀ i,i < l.length→LoVa (l.getD i va0)
theorem loVa_of {x:Va} (_h:wVa x≤1048576):LoVa x:=rfl
theorem loVaS_of {l:List Va} (h:wSVa l l.length≤1048576):LoVaS l:=⟨Nat.le_trans (wSVa_ge l _) h,fun i hi=>loVa_of (by have:=wSVa_at l hi;omega)⟩
structure Fm where
 code:Int
 fn:Int
 pl:Int
 slots:List Va
 stack:List Va
def fm0:Fm:=⟨0,0,0,[],[]⟩
def FmA (W:World) (a:Addr) (x:Fm) (v0 v1:Value):Prop:=W.cell? a=some (.int .i64 x.code)∧W.cell? ⟨a.block,a.off+1,none⟩=some (.int .i64 x.fn)∧W.cell? ⟨a.block,a.off+2,none⟩=some (.int .i64 x.pl)∧W.cell? ⟨a.block,a.off+3,none⟩=some (v0)∧W.cell? ⟨a.block,a.off+4,none⟩=some (v1)
theorem FmA.of {W V:World} {a:Addr} {x:Fm} {v0 v1:Value} (h:FmA W a x v0 v1) (hk:∀ p:Addr,p.block=a.block→V.cell? p=W.cell? p):FmA V a x v0 v1:=by
 obtain ⟨h0,h1,h2,h3,h4⟩:=h
 exact ⟨(hk _ rfl).trans h0,(hk ⟨_,_,none⟩ rfl).trans h1,(hk ⟨_,_,none⟩ rfl).trans h2,(hk ⟨_,_,none⟩ rfl).trans h3,(hk ⟨_,_,none⟩ rfl).trans h4⟩
def SFmA (W:World) (v:Value) (l:List Fm):Prop:=∃ (ad:Option Addr) (c:Nat),v=.slice ad l.length c∧(l=[]∨∃ a:Addr,ad=some a∧a.block < W.heap.size∧∀ i,i < l.length→∃ v0 v1,FmA W (a.add (i * 5)) (l.getD i fm0) v0 v1∧SVaA W v0 (l.getD i fm0).slots∧SVaA W v1 (l.getD i fm0).stack)
theorem SFmA.next {W V:World} {v:Value} {l:List Fm} (h:SFmA W v l) (hb:Below W.heap.size W V):SFmA V v l:=by
 obtain ⟨ad,c,e,h1⟩:=h
 refine ⟨ad,c,e,?_⟩
 rcases h1 with h1 | ⟨a,e1,e2,e3⟩
 ·exact .inl h1
 ·refine .inr ⟨a,e1,Nat.lt_of_lt_of_le e2 hb.size,fun i hi=>?_⟩
  obtain ⟨v0,v1,c0,r0,r1⟩:=e3 i hi
  exact ⟨v0,v1,c0.of fun p hp=>hb.cell (by rw [hp,add_block];exact e2),r0.next hb,r1.next hb⟩
theorem SFmA.sl {W:World} {v:Value} {l:List Fm} (h:SFmA W v l):∃ ad c,v=.slice ad l.length c:=by
 obtain ⟨ad,c,e,_⟩:=h
 exact ⟨ad,c,e⟩
theorem SFmA.at {W:World} {v:Value} {l:List Fm} (h:SFmA W v l) {i:Nat} (hi:i < l.length):∃ (a:Addr) (c:Nat),v=.slice (some a) l.length c∧a.block < W.heap.size∧∃ v0 v1,FmA W (a.add (i * 5)) (l.getD i fm0) v0 v1∧SVaA W v0 (l.getD i fm0).slots∧SVaA W v1 (l.getD i fm0).stack:=by
 obtain ⟨ad,c,e,h1⟩:=h
 rcases h1 with h1 | ⟨a,e1,e2,e3⟩
 ·rw [h1] at hi;exact absurd hi (Nat.not_lt_zero _)
 ·subst e1
  exact ⟨a,c,e,e2,e3 i hi⟩
def SFmF (g:Nat) (W:World) (l:List Fm) (j:Nat):Prop:=∃ cur,W.heap[g]?=some (.cells cur 86 (0,0))∧cur.size=l.length * 5∧∀ i,i < j→∃ v0 v1,cur[i * 5]?=some (.int .i64 (l.getD i fm0).code)∧cur[i * 5+1]?=some (.int .i64 (l.getD i fm0).fn)∧cur[i * 5+2]?=some (.int .i64 (l.getD i fm0).pl)∧cur[i * 5+3]?=some (v0)∧cur[i * 5+4]?=some (v1)∧SVaR (g+1) W v0 (l.getD i fm0).slots∧SVaR (g+1) W v1 (l.getD i fm0).stack
def SFmR (B:Nat) (W:World) (v:Value) (l:List Fm):Prop:=∃ g,v=.slice (some ⟨g,0,none⟩) l.length l.length∧B≤g∧SFmF g W l l.length
theorem SFmF.keep {g:Nat} {W V:World} {l:List Fm} {j:Nat} (h:SFmF g W l j) (hk:∀ i,g≤i→i < W.heap.size→V.heap[i]?=W.heap[i]?):SFmF g V l j:=by
 obtain ⟨cur,h1,h2,h3⟩:=h
 refine ⟨cur,(hk g (Nat.le_refl _) (lt_hp h1)).trans h1,h2,fun i hi=>?_⟩
 obtain ⟨v0,v1,d0,d1,d2,d3,d4,r0,r1⟩:=h3 i hi
 exact ⟨v0,v1,d0,d1,d2,d3,d4,r0.keep fun x hx hy=>hk x (by omega) hy,r1.keep fun x hx hy=>hk x (by omega) hy⟩
theorem SFmR.keep {B:Nat} {W V:World} {v:Value} {l:List Fm} (h:SFmR B W v l) (hk:∀ i,B≤i→i < W.heap.size→V.heap[i]?=W.heap[i]?):SFmR B V v l:=by
 obtain ⟨g,e,hg,h1⟩:=h
 exact ⟨g,e,hg,h1.keep fun i hi hj=>hk i (by omega) hj⟩
theorem SFmR.next {B:Nat} {W V:World} {v:Value} {l:List Fm} (h:SFmR B W v l) (hb:Below W.heap.size W V):SFmR B V v l:=h.keep fun i _ hj=>hb.block i hj
theorem SFmR.set {B:Nat} {W:World} {v:Value} {l:List Fm} (h:SFmR B W v l) {b:Nat} (hb:b < B) (i:Nat) (u:Value):SFmR B (W.setCell ⟨b,i,none⟩ u) v l:=h.keep fun x hx _=>set_other _ _ _ _ _ (by omega)
theorem SFmR.mono {B B':Nat} {W:World} {v:Value} {l:List Fm} (h:SFmR B W v l) (hb:B'≤B):SFmR B' W v l:=by
 obtain ⟨g,e,hg,h1⟩:=h
 exact ⟨g,e,Nat.le_trans hb hg,h1⟩
theorem SFmR.sl {B:Nat} {W:World} {v:Value} {l:List Fm} (h:SFmR B W v l):∃ g,v=.slice (some ⟨g,0,none⟩) l.length l.length:=by
 obtain ⟨g,e,_⟩:=h
 exact ⟨g,e⟩
theorem SFmR.at {B:Nat} {W:World} {v:Value} {l:List Fm} (h:SFmR B W v l) {i:Nat} (hi:i < l.length):∃ g,v=.slice (some ⟨g,0,none⟩) l.length l.length∧B≤g∧g < W.heap.size∧∃ v0 v1,W.cell? ⟨g,i * 5,none⟩=some (.int .i64 (l.getD i fm0).code)∧W.cell? ⟨g,i * 5+1,none⟩=some (.int .i64 (l.getD i fm0).fn)∧W.cell? ⟨g,i * 5+2,none⟩=some (.int .i64 (l.getD i fm0).pl)∧W.cell? ⟨g,i * 5+3,none⟩=some (v0)∧W.cell? ⟨g,i * 5+4,none⟩=some (v1)∧SVaR (g+1) W v0 (l.getD i fm0).slots∧SVaR (g+1) W v1 (l.getD i fm0).stack:=by
 obtain ⟨g,e,hg,cur,h1,h2,h3⟩:=h
 obtain ⟨v0,v1,d0,d1,d2,d3,d4,r0,r1⟩:=h3 i hi
 exact ⟨g,e,hg,lt_hp h1,v0,v1,(row_cell h1 _).trans d0,(row_cell h1 _).trans d1,(row_cell h1 _).trans d2,(row_cell h1 _).trans d3,(row_cell h1 _).trans d4,r0,r1⟩
theorem SFmF.step {g:Nat} {W:World} {l:List Fm} {j:Nat} (h:SFmF g W l j) (hj:j < l.length) {u0:Value} {u1:Value} (k0:SVaR (g+1) W u0 (l.getD j fm0).slots) (k1:SVaR (g+1) W u1 (l.getD j fm0).stack):SFmF g (((((W.setCell ⟨g,j * 5,none⟩ (.int .i64 (l.getD j fm0).code)).setCell ⟨g,j * 5+1,none⟩ (.int .i64 (l.getD j fm0).fn)).setCell ⟨g,j * 5+2,none⟩ (.int .i64 (l.getD j fm0).pl)).setCell ⟨g,j * 5+3,none⟩ u0).setCell ⟨g,j * 5+4,none⟩ u1) l (j+1):=by
 obtain ⟨cur,h1,h2,h3⟩:=h
 refine ⟨_,(set_at (i:=j * 5+4) u1 (set_at (i:=j * 5+3) u0 (set_at (i:=j * 5+2) (.int .i64 (l.getD j fm0).pl) (set_at (i:=j * 5+1) (.int .i64 (l.getD j fm0).fn) (set_at (i:=j * 5) (.int .i64 (l.getD j fm0).code) h1))))),by simp [h2],fun i hi=>?_⟩
 by_cases hij:i=j
 ·subst hij
  exact ⟨u0,u1,(by rw [Array.getElem?_setIfInBounds_ne (by omega),Array.getElem?_setIfInBounds_ne (by omega),Array.getElem?_setIfInBounds_ne (by omega),Array.getElem?_setIfInBounds_ne (by omega),Array.getElem?_setIfInBounds_self_of_lt (by first | omega | (simp;omega))]),(by rw [Array.getElem?_setIfInBounds_ne (by omega),Array.getElem?_setIfInBounds_ne (by omega),Array.getElem?_setIfInBounds_ne (by omega),Array.getElem?_setIfInBounds_self_of_lt (by first | omega | (simp;omega))]),(by rw [Array.getElem?_setIfInBounds_ne (by omega),Array.getElem?_setIfInBounds_ne (by omega),Array.getElem?_setIfInBounds_self_of_lt (by first | omega | (simp;omega))]),(by rw [Array.getElem?_setIfInBounds_ne (by omega),Array.getElem?_setIfInBounds_self_of_lt (by first | omega | (simp;omega))]),(by rw [Array.getElem?_setIfInBounds_self_of_lt (by first | omega | (simp;omega))]),(((((k0.set (by omega) _ _).set (by omega) _ _).set (by omega) _ _).set (by omega) _ _).set (by omega) _ _),(((((k1.set (by omega) _ _).set (by omega) _ _).set (by omega) _ _).set (by omega) _ _).set (by omega) _ _)⟩
 ·obtain ⟨v0,v1,d0,d1,d2,d3,d4,r0,r1⟩:=h3 i (by omega)
  exact ⟨v0,v1,(by rw [Array.getElem?_setIfInBounds_ne (by omega),Array.getElem?_setIfInBounds_ne (by omega),Array.getElem?_setIfInBounds_ne (by omega),Array.getElem?_setIfInBounds_ne (by omega),Array.getElem?_setIfInBounds_ne (by omega)];exact d0),(by rw [Array.getElem?_setIfInBounds_ne (by omega),Array.getElem?_setIfInBounds_ne (by omega),Array.getElem?_setIfInBounds_ne (by omega),Array.getElem?_setIfInBounds_ne (by omega),Array.getElem?_setIfInBounds_ne (by omega)];exact d1),(by rw [Array.getElem?_setIfInBounds_ne (by omega),Array.getElem?_setIfInBounds_ne (by omega),Array.getElem?_setIfInBounds_ne (by omega),Array.getElem?_setIfInBounds_ne (by omega),Array.getElem?_setIfInBounds_ne (by omega)];exact d2),(by rw [Array.getElem?_setIfInBounds_ne (by omega),Array.getElem?_setIfInBounds_ne (by omega),Array.getElem?_setIfInBounds_ne (by omega),Array.getElem?_setIfInBounds_ne (by omega),Array.getElem?_setIfInBounds_ne (by omega)];exact d3),(by rw [Array.getElem?_setIfInBounds_ne (by omega),Array.getElem?_setIfInBounds_ne (by omega),Array.getElem?_setIfInBounds_ne (by omega),Array.getElem?_setIfInBounds_ne (by omega),Array.getElem?_setIfInBounds_ne (by omega)];exact d4),(((((r0.set (by omega) _ _).set (by omega) _ _).set (by omega) _ _).set (by omega) _ _).set (by omega) _ _),(((((r1.set (by omega) _ _).set (by omega) _ _).set (by omega) _ _).set (by omega) _ _).set (by omega) _ _)⟩
theorem SFmF.lt {g:Nat} {W:World} {l:List Fm} {j:Nat} (h:SFmF g W l j):g < W.heap.size:=by
 obtain ⟨cur,h1,_⟩:=h
 exact lt_hp h1
theorem SFmF.room {g:Nat} {W:World} {l:List Fm} {j:Nat} (h:SFmF g W l j) {i:Nat} (hi:i < l.length * 5):(∃ v,W.cell? ⟨g,i,none⟩=some v)∧W.frozen? ⟨g,i,none⟩=false:=by
 obtain ⟨cur,h1,h2,_⟩:=h
 exact row_room h1 (by omega)
def wFm (x:Fm):Nat:=wSVa x.slots x.slots.length+wSVa x.stack x.stack.length
def OkFm (x:Fm):Prop:=(-9223372036854775808≤x.code∧x.code≤9223372036854775807)∧(-9223372036854775808≤x.fn∧x.fn≤9223372036854775807)∧(-9223372036854775808≤x.pl∧x.pl≤9223372036854775807)∧OkVaS x.slots∧OkVaS x.stack
def LoFm (x:Fm):Prop:=LoVaS x.slots∧LoVaS x.stack
def wSFm (l:List Fm):Nat→Nat
 | 0=>0
 | n+1=>wSFm l n+1+wFm (l.getD n fm0)
theorem wSFm_ge (l:List Fm) (n:Nat):n≤wSFm l n:=by
 induction n with
 | zero=>exact Nat.le_refl _
 | succ n ih=>simp only [wSFm];omega
theorem wSFm_mono (l:List Fm) {j n:Nat} (h:j≤n):wSFm l j≤wSFm l n:=by
 induction h with
 | refl=>exact Nat.le_refl _
 | step _ ih=>simp only [wSFm];omega
theorem wSFm_at (l:List Fm) {n m:Nat} (h:n < m):wSFm l n+1+wFm (l.getD n fm0)≤wSFm l m:=wSFm_mono l (Nat.succ_le_of_lt h)
def OkFmS (l:List Fm):Prop:=l.length≤maxLen∧∀ i,i < l.length→OkFm (l.getD i fm0)
def LoFmS (l:List Fm):Prop:=l.length≤1048576∧∀ i,i < l.length→LoFm (l.getD i fm0)
theorem loFm_of {x:Fm} (h:wFm x≤1048576):LoFm x:=by
 simp only [wFm] at h
 exact ⟨loVaS_of (by omega),loVaS_of (by omega)⟩
theorem loFmS_of {l:List Fm} (h:wSFm l l.length≤1048576):LoFmS l:=⟨Nat.le_trans (wSFm_ge l _) h,fun i hi=>loFm_of (by have:=wSFm_at l hi;omega)⟩
structure Fl where
 name:ByteArray
 text:ByteArray
def fl0:Fl:=⟨⟨#[]⟩,⟨#[]⟩⟩
def FlA (W:World) (a:Addr) (x:Fl):Prop:=W.cell? a=some (.string x.name)∧W.cell? ⟨a.block,a.off+1,none⟩=some (.string x.text)
theorem FlA.of {W V:World} {a:Addr} {x:Fl} (h:FlA W a x) (hk:∀ p:Addr,p.block=a.block→V.cell? p=W.cell? p):FlA V a x:=by
 obtain ⟨h0,h1⟩:=h
 exact ⟨(hk _ rfl).trans h0,(hk ⟨_,_,none⟩ rfl).trans h1⟩
def SFlA (W:World) (v:Value) (l:List Fl):Prop:=∃ (ad:Option Addr) (c:Nat),v=.slice ad l.length c∧(l=[]∨∃ a:Addr,ad=some a∧a.block < W.heap.size∧∀ i,i < l.length→FlA W (a.add (i * 2)) (l.getD i fl0))
theorem SFlA.next {W V:World} {v:Value} {l:List Fl} (h:SFlA W v l) (hb:Below W.heap.size W V):SFlA V v l:=by
 obtain ⟨ad,c,e,h1⟩:=h
 refine ⟨ad,c,e,?_⟩
 rcases h1 with h1 | ⟨a,e1,e2,e3⟩
 ·exact .inl h1
 ·refine .inr ⟨a,e1,Nat.lt_of_lt_of_le e2 hb.size,fun i hi=>?_⟩
  exact (e3 i hi).of fun p hp=>hb.cell (by rw [hp,add_block];exact e2)
theorem SFlA.sl {W:World} {v:Value} {l:List Fl} (h:SFlA W v l):∃ ad c,v=.slice ad l.length c:=by
 obtain ⟨ad,c,e,_⟩:=h
 exact ⟨ad,c,e⟩
theorem SFlA.at {W:World} {v:Value} {l:List Fl} (h:SFlA W v l) {i:Nat} (hi:i < l.length):∃ (a:Addr) (c:Nat),v=.slice (some a) l.length c∧a.block < W.heap.size∧FlA W (a.add (i * 2)) (l.getD i fl0):=by
 obtain ⟨ad,c,e,h1⟩:=h
 rcases h1 with h1 | ⟨a,e1,e2,e3⟩
 ·rw [h1] at hi;exact absurd hi (Nat.not_lt_zero _)
 ·subst e1
  exact ⟨a,c,e,e2,e3 i hi⟩
def SFlF (g:Nat) (W:World) (l:List Fl) (j:Nat):Prop:=∃ cur,W.heap[g]?=some (.cells cur 55 (0,0))∧cur.size=l.length * 2∧∀ i,i < j→cur[i * 2]?=some (.string (l.getD i fl0).name)∧cur[i * 2+1]?=some (.string (l.getD i fl0).text)
def SFlR (B:Nat) (W:World) (v:Value) (l:List Fl):Prop:=∃ g,v=.slice (some ⟨g,0,none⟩) l.length l.length∧B≤g∧SFlF g W l l.length
theorem SFlF.keep {g:Nat} {W V:World} {l:List Fl} {j:Nat} (h:SFlF g W l j) (hk:∀ i,g≤i→i < W.heap.size→V.heap[i]?=W.heap[i]?):SFlF g V l j:=by
 obtain ⟨cur,h1,h2,h3⟩:=h
 exact ⟨cur,(hk g (Nat.le_refl _) (lt_hp h1)).trans h1,h2,h3⟩
theorem SFlR.keep {B:Nat} {W V:World} {v:Value} {l:List Fl} (h:SFlR B W v l) (hk:∀ i,B≤i→i < W.heap.size→V.heap[i]?=W.heap[i]?):SFlR B V v l:=by
 obtain ⟨g,e,hg,h1⟩:=h
 exact ⟨g,e,hg,h1.keep fun i hi hj=>hk i (by omega) hj⟩
theorem SFlR.next {B:Nat} {W V:World} {v:Value} {l:List Fl} (h:SFlR B W v l) (hb:Below W.heap.size W V):SFlR B V v l:=h.keep fun i _ hj=>hb.block i hj
theorem SFlR.set {B:Nat} {W:World} {v:Value} {l:List Fl} (h:SFlR B W v l) {b:Nat} (hb:b < B) (i:Nat) (u:Value):SFlR B (W.setCell ⟨b,i,none⟩ u) v l:=h.keep fun x hx _=>set_other _ _ _ _ _ (by omega)
theorem SFlR.mono {B B':Nat} {W:World} {v:Value} {l:List Fl} (h:SFlR B W v l) (hb:B'≤B):SFlR B' W v l:=by
 obtain ⟨g,e,hg,h1⟩:=h
 exact ⟨g,e,Nat.le_trans hb hg,h1⟩
theorem SFlR.sl {B:Nat} {W:World} {v:Value} {l:List Fl} (h:SFlR B W v l):∃ g,v=.slice (some ⟨g,0,none⟩) l.length l.length:=by
 obtain ⟨g,e,_⟩:=h
 exact ⟨g,e⟩
theorem SFlR.at {B:Nat} {W:World} {v:Value} {l:List Fl} (h:SFlR B W v l) {i:Nat} (hi:i < l.length):∃ g,v=.slice (some ⟨g,0,none⟩) l.length l.length∧B≤g∧g < W.heap.size∧W.cell? ⟨g,i * 2,none⟩=some (.string (l.getD i fl0).name)∧W.cell? ⟨g,i * 2+1,none⟩=some (.string (l.getD i fl0).text):=by
 obtain ⟨g,e,hg,cur,h1,h2,h3⟩:=h
 obtain ⟨d0,d1⟩:=h3 i hi
 exact ⟨g,e,hg,lt_hp h1,(row_cell h1 _).trans d0,(row_cell h1 _).trans d1⟩
theorem SFlF.step {g:Nat} {W:World} {l:List Fl} {j:Nat} (h:SFlF g W l j) (hj:j < l.length):SFlF g ((W.setCell ⟨g,j * 2,none⟩ (.string (l.getD j fl0).name)).setCell ⟨g,j * 2+1,none⟩ (.string (l.getD j fl0).text)) l (j+1):=by
 obtain ⟨cur,h1,h2,h3⟩:=h
 refine ⟨_,(set_at (i:=j * 2+1) (.string (l.getD j fl0).text) (set_at (i:=j * 2) (.string (l.getD j fl0).name) h1)),by simp [h2],fun i hi=>?_⟩
 by_cases hij:i=j
 ·subst hij
  exact ⟨(by rw [Array.getElem?_setIfInBounds_ne (by omega),Array.getElem?_setIfInBounds_self_of_lt (by first | omega | (simp;omega))]),(by rw [Array.getElem?_setIfInBounds_self_of_lt (by first | omega | (simp;omega))])⟩
 ·obtain ⟨d0,d1⟩:=h3 i (by omega)
  exact ⟨(by rw [Array.getElem?_setIfInBounds_ne (by omega),Array.getElem?_setIfInBounds_ne (by omega)];exact d0),(by rw [Array.getElem?_setIfInBounds_ne (by omega),Array.getElem?_setIfInBounds_ne (by omega)];exact d1)⟩
theorem SFlF.lt {g:Nat} {W:World} {l:List Fl} {j:Nat} (h:SFlF g W l j):g < W.heap.size:=by
 obtain ⟨cur,h1,_⟩:=h
 exact lt_hp h1
theorem SFlF.room {g:Nat} {W:World} {l:List Fl} {j:Nat} (h:SFlF g W l j) {i:Nat} (hi:i < l.length * 2):(∃ v,W.cell? ⟨g,i,none⟩=some v)∧W.frozen? ⟨g,i,none⟩=false:=by
 obtain ⟨cur,h1,h2,_⟩:=h
 exact row_room h1 (by omega)
def wFl (x:Fl):Nat:=x.name.size+x.text.size
def OkFl (x:Fl):Prop:=x.name.size≤maxLen∧x.text.size≤maxLen
def LoFl (x:Fl):Prop:=x=x
def wSFl (l:List Fl):Nat→Nat
 | 0=>0
 | n+1=>wSFl l n+1+wFl (l.getD n fl0)
theorem wSFl_ge (l:List Fl) (n:Nat):n≤wSFl l n:=by
 induction n with
 | zero=>exact Nat.le_refl _
 | succ n ih=>simp only [wSFl];omega
theorem wSFl_mono (l:List Fl) {j n:Nat} (h:j≤n):wSFl l j≤wSFl l n:=by
 induction h with
 | refl=>exact Nat.le_refl _
 | step _ ih=>simp only [wSFl];omega
theorem wSFl_at (l:List Fl) {n m:Nat} (h:n < m):wSFl l n+1+wFl (l.getD n fl0)≤wSFl l m:=wSFl_mono l (Nat.succ_le_of_lt h)
def OkFlS (l:List Fl):Prop:=l.length≤maxLen∧∀ i,i < l.length→OkFl (l.getD i fl0)
def LoFlS (l:List Fl):Prop:=l.length≤1048576∧∀ i,i < l.length→LoFl (l.getD i fl0)
theorem loFl_of {x:Fl} (_h:wFl x≤1048576):LoFl x:=rfl
theorem loFlS_of {l:List Fl} (h:wSFl l l.length≤1048576):LoFlS l:=⟨Nat.le_trans (wSFl_ge l _) h,fun i hi=>loFl_of (by have:=wSFl_at l hi;omega)⟩
structure Mc where
 codes:List Cd
 args:List ByteArray
 outs:List ByteArray
 frames:List Fm
 steps:Int
 looks:Int
 kind:Int
 name:ByteArray
 hold:ByteArray
 over:Bool
 fin:Int
 text:ByteArray
 files:List Fl
 said:List ByteArray
def wMc (x:Mc):Nat:=wSCd x.codes x.codes.length+wSStr x.args x.args.length+wSStr x.outs x.outs.length+wSFm x.frames x.frames.length+x.name.size+x.hold.size+x.text.size+wSFl x.files x.files.length+wSStr x.said x.said.length
def OkMc (x:Mc):Prop:=OkCdS x.codes∧OkStrS x.args∧OkStrS x.outs∧OkFmS x.frames∧(-9223372036854775808≤x.steps∧x.steps≤9223372036854775807)∧(-9223372036854775808≤x.looks∧x.looks≤9223372036854775807)∧(-9223372036854775808≤x.kind∧x.kind≤9223372036854775807)∧x.name.size≤maxLen∧x.hold.size≤maxLen∧x.over=x.over∧(-9223372036854775808≤x.fin∧x.fin≤9223372036854775807)∧x.text.size≤maxLen∧OkFlS x.files∧OkStrS x.said
def LoMc (x:Mc):Prop:=LoCdS x.codes∧LoStrS x.args∧LoStrS x.outs∧LoFmS x.frames∧LoFlS x.files∧LoStrS x.said
theorem loMc_of {x:Mc} (h:wMc x≤1048576):LoMc x:=by
 simp only [wMc] at h
 exact ⟨loCdS_of (by omega),loStrS_of (by omega),loStrS_of (by omega),loFmS_of (by omega),loFlS_of (by omega),loStrS_of (by omega)⟩
end Go.Proofs.YtbkmglknbflkhaaGreatDoor.R
