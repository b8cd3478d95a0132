import Derived.Test.YthnohneaanphbaaGreatDoorChecked
import Derived.WalkKit
import Derived.WalkSpells
import Derived.WalkLawsBesides
import Derived.Deep.QuietTactic
import Derived.BigQuiet
import Derived.OwnWalk
import Derived.Test.YthnohneaanphbaaGreatDoorJ00
import Derived.Test.YthnohneaanphbaaGreatDoorJ02
import Derived.Test.YthnohneaanphbaaGreatDoorJ04
namespace Go.Proofs.YthnohneaanphbaaGreatDoor.K
open Go.RowKit
theorem ret_bool {a b:Bool} (h:a=b):Ending.returned (.bool a)=.returned (.bool b):=by rw [h]
theorem ret_int {k:IntKind} {a b:Int} (h:a=b):Ending.returned (.int k a)=.returned (.int k b):=by rw [h]
set_option maxHeartbeats 400000 in
theorem isDigit_any (c:Int) (w:World) :
  Calls Tryz.prog 71 #[.int .u8 c] w fun e w'=>e=.returned (.bool (dig c))∧w'=w:=by
 go_enter Tryz.func71,Tryz.ntmps71
 go_wp2
 all_goals go_ret
 all_goals exact ⟨ret_bool (by unfold dig;rw [Bool.eq_iff_iff];simp;try omega),rfl⟩
set_option maxHeartbeats 400000 in
theorem l1Digit_any (c:Int) (w:World) :
  Calls Tryz.prog 73 #[.int .u8 c] w fun e w'=>e=.returned (.bool (dig c))∧w'=w:=by
 go_enter Tryz.func73,Tryz.ntmps73
 go_wp2
 all_goals go_ret
 all_goals exact ⟨ret_bool (by unfold dig;rw [Bool.eq_iff_iff];simp;try omega),rfl⟩
set_option maxHeartbeats 400000 in
theorem l1Begins_any (c:Int) (w:World) :
  Calls Tryz.prog 44 #[.int .u8 c] w fun e w'=>e=.returned (.bool (beg c))∧w'=w:=by
 go_enter Tryz.func44,Tryz.ntmps44
 go_wp2
 all_goals go_ret
 all_goals exact ⟨ret_bool (by unfold beg;rw [Bool.eq_iff_iff];simp;try omega),rfl⟩
set_option maxHeartbeats 400000 in
theorem l1Letter_any (c:Int) (w:World) :
  Calls Tryz.prog 46 #[.int .u8 c] w fun e w'=>e=.returned (.bool (let_ c))∧w'=w:=by
 cases hb:beg c <;> cases hd:dig c
 all_goals go_enter Tryz.func46,Tryz.ntmps46
 all_goals go_wp2_with (first
  | (go_at_call 44;refine (l1Begins_any _ _).mono ?_;rintro e w' ⟨rfl,rfl⟩)
  | (go_at_call 73;refine (l1Digit_any _ _).mono ?_;rintro e w' ⟨rfl,rfl⟩))
 all_goals go_ret
 all_goals exact ⟨ret_bool (by simp [let_,hb,hd]),rfl⟩
set_option maxHeartbeats 400000 in
theorem isName_any (c:Int) (w:World) :
  Calls Tryz.prog 100 #[.int .u8 c] w fun e w'=>e=.returned (.bool (let_ c))∧w'=w:=by
 go_enter Tryz.func100,Tryz.ntmps100
 go_wp2_with (first
  | (go_at_call 71;refine (isDigit_any _ _).mono ?_;rintro e w' ⟨rfl,rfl⟩))
 all_goals go_ret
 all_goals exact ⟨ret_bool (by unfold let_ beg;generalize dig c=d;cases d <;> rw [Bool.eq_iff_iff] <;> simp <;> try omega),rfl⟩
set_option maxHeartbeats 400000 in
theorem l1Hex_any (c:Int) (w:World) (h0:0≤c) (h1:c≤255) :
  Calls Tryz.prog 115 #[.int .u8 c] w fun e w'=>e=.returned (.int .i64 (hexv c))∧w'=w:=by
 go_enter Tryz.func115,Tryz.ntmps115
 go_wp2
 all_goals go_ret
 all_goals exact ⟨ret_int (by unfold hexv;split <;> (try split) <;> omega),rfl⟩
set_option maxHeartbeats 400000 in
theorem nameSize_any (s:ByteArray) (w:World) (hs:s.size≤maxLen) :
  Calls Tryz.prog 70 #[.string s] w fun e w'=>e=.returned (.int .i64 (run letB s.data.toList))∧w'=w:=by
 unfold maxLen at hs
 go_enter Tryz.func70,Tryz.ntmps70
 go_wp2
 go_loop [3] (fun i=>∃ k:Nat,k≤s.size∧i=.int .i64 k∧k≤run letB s.data.toList) (fun i=>s.size - (intOf i).toNat)
 case atStart=>exact ⟨0,Nat.zero_le _,rfl,Nat.zero_le _⟩
 case round =>
  obtain ⟨k,hk,rfl,hr⟩:=hrel
  by_cases hlt:k < s.size
  ·have hl:k < s.data.toList.length:=by simpa using hlt
   have hg:s.data.toList[k]=s[k]:=rfl
   have HG:Hid (s.data.toList[k]=s[k]):=hg
   clear hg
   cases hp:let_ (s[k].toNat:Int)
   ·have HE:=run_stop letB _ k hr hl (by rw [HG.out];exact hp)
    have HE':Hid (run letB s.data.toList=k):=HE
    clear HE
    go_wp2_with (go_at_call 100;refine (isName_any _ _).mono ?_;rintro e w' ⟨rfl,rfl⟩)
    go_ret
    exact ⟨ret_int (by rw [HE'.out]),rfl⟩
   ·have HE:=run_step letB _ k hr hl (by rw [HG.out];exact hp)
    go_wp2_with (go_at_call 100;refine (isName_any _ _).mono ?_;rintro e w' ⟨rfl,rfl⟩)
    go_round
    case rel=>exact ⟨k+1,by omega,by go_num,HE⟩
    case measure=>simp [intOf];omega
  ·have HE:Hid (run letB s.data.toList=k):=by
    have:=run_le letB s.data.toList
    have e:s.data.toList.length=s.size:=by simp
    exact Nat.le_antisymm (by omega) hr
   go_wp2
   go_ret
   exact ⟨ret_int (by rw [HE.out]),rfl⟩
theorem byte_bd (c:UInt8):0≤(c.toNat:Int)∧(c.toNat:Int)≤255:=by have:=c.toNat_lt;omega
end Go.Proofs.YthnohneaanphbaaGreatDoor.K
namespace Go.Proofs.YthnohneaanphbaaGreatDoor
open Go.RowKit
set_option maxRecDepth 20000
set_option maxHeartbeats 4000000 in
theorem l2Plain_E (k:Int) (hk:k < 1∨24 < k):Pl1 k:=by
 intro op n kids t w ht
 unfold ndV
 have HT:=hid ht
 clear ht
 have e2:(k == 2)=false:=by simp;omega
 have n2:(k != 2)=true:=by simp;omega
 have q2:¬ k=2:=by omega
 have e3:(k == 3)=false:=by simp;omega
 have n3:(k != 3)=true:=by simp;omega
 have q3:¬ k=3:=by omega
 have e4:(k == 4)=false:=by simp;omega
 have n4:(k != 4)=true:=by simp;omega
 have q4:¬ k=4:=by omega
 have e5:(k == 5)=false:=by simp;omega
 have n5:(k != 5)=true:=by simp;omega
 have q5:¬ k=5:=by omega
 have e6:(k == 6)=false:=by simp;omega
 have n6:(k != 6)=true:=by simp;omega
 have q6:¬ k=6:=by omega
 have e7:(k == 7)=false:=by simp;omega
 have n7:(k != 7)=true:=by simp;omega
 have q7:¬ k=7:=by omega
 have e11:(k == 11)=false:=by simp;omega
 have n11:(k != 11)=true:=by simp;omega
 have q11:¬ k=11:=by omega
 have e14:(k == 14)=false:=by simp;omega
 have n14:(k != 14)=true:=by simp;omega
 have q14:¬ k=14:=by omega
 have e17:(k == 17)=false:=by simp;omega
 have n17:(k != 17)=true:=by simp;omega
 have q17:¬ k=17:=by omega
 have e23:(k == 23)=false:=by simp;omega
 have n23:(k != 23)=true:=by simp;omega
 have q23:¬ k=23:=by omega
 have r1:(decide (16≤k) && decide (k≤21))=false:=by simp;omega
 have r2:16≤k→21 < k:=by omega
 clear hk
 go_enter Tryz.func48,Tryz.ntmps48
 go_wp2_with (first
  | (go_at_call 22;refine (l1In_dec _ _ _ _).mono ?_;rintro e w' ⟨rfl,rfl⟩)
  | (go_at_call 74;refine (l2Package_any t _ HT.out).mono ?_;rintro e w' ⟨hs,rfl⟩;rcases hs.get with ⟨rfl,hp⟩ | ⟨rfl,hp⟩)
  | (go_at_call 23;refine (l1NameOk_any t _ HT.out).mono ?_;rintro e w1 ⟨hs,hb⟩;rcases hs.get with ⟨rfl,hp⟩ | ⟨rfl,hp⟩))
 all_goals go_ret
 all_goals refine ⟨⟨_,rfl,?_⟩,?_⟩
 all_goals first
  | exact (Below.refl w.heap.size w).alloc (Nat.le_refl _) _
  | exact Below.trans ((Below.refl w.heap.size w).alloc (Nat.le_refl _) _) (Below.mono hb (B':=w.heap.size) (by simp))
  | (simp [PlainNd,hasText,inR, *];done)
  | ((try simp only [bne_iff_ne,bne_eq_false_iff_eq,ne_eq] at *);(try simp [PlainNd,hasText,inR, *]);done)
set_option maxHeartbeats 4000000 in
theorem KO_C (kind:Int) (hkind:kind=10∨kind=11∨kind=13∨kind=14∨kind=17):KO kind:=by
 intro b N cap g o m c nd ks w hm hb hg hn hk
 have HN:=hid hn
 have HK:=hid hk
 clear hn hk
 go_enter Tryz.func49,Tryz.ntmps49
 go_wp2
 go_loopw [8,10] (fun es i wr=>∃ j e:Nat,j≤m∧e≤j∧i=.int .i64 j∧es=.int .i64 e∧(e=j ↔ AllE j (fun i=>nd (ks i)))∧Below (w.heap.size+1) (w.alloc (.cells #[.slice (some ⟨b,0,none⟩) N cap] 25)) wr) (fun _ i _=>m - (intOf i).toNat)
 case atStart=>exact ⟨0,0,Nat.zero_le _,Nat.zero_le _,rfl,rfl,⟨fun _ i h=>absurd h (Nat.not_lt_zero _),fun _=>rfl⟩,Below.refl _ _⟩
 case round =>
  obtain ⟨j,e,hj,he,rfl,rfl,hall,hbw⟩:=hrel
  have HALL:=hid hall
  have HBW:=hid hbw
  clear hall hbw
  by_cases hlt:j < m
  ·have t0:=tree_cell HBW.out
   obtain ⟨a0,a1⟩:=(HK.out.below (btree HBW.out) hg) j hlt
   obtain ⟨a2,_⟩:=(HN.out.below (btree HBW.out) hb) (ks j) a1
   have HS:=hid (AllE_step HALL.out he)
   cases hE:isE (nd (ks j)).kind
   ·have NX:=hid (HS.out.2 hE)
    clear HS
    go_wp2
    go_region_with (go_at_call 75;refine (l2E_any _ _).mono ?_;rintro e w' ⟨rfl,hw⟩;have hw2:=hw.symm;clear hw;subst hw2)
    all_goals go_wp2
    all_goals
     go_roundw
     case rel=>exact ⟨j+1,e,by omega,by omega,by go_num,rfl,NX.out,HBW.out.drew⟩
     case measure=>simp [intOf];omega
   ·have NX:=hid (HS.out.1 hE)
    clear HS
    go_wp2
    go_region_with (go_at_call 75;refine (l2E_any _ _).mono ?_;rintro e w' ⟨rfl,hw⟩;have hw2:=hw.symm;clear hw;subst hw2)
    all_goals go_wp2
    all_goals
     go_roundw
     case rel=>exact ⟨j+1,e+1,by omega,by omega,by go_num,by go_num,NX.out,HBW.out.drew⟩
     case measure=>simp [intOf];omega
  ·obtain rfl:j=m:=by omega
   rcases hkind with rfl | rfl | rfl | rfl | rfl
   all_goals go_wp2
   all_goals go_ret
   all_goals refine ⟨⟨_,rfl,?_⟩,btree HBW.out⟩
   all_goals simp [KidsOk,← HALL.out, *]
   all_goals omega
end Go.Proofs.YthnohneaanphbaaGreatDoor
namespace Go.Proofs.YthnohneaanphbaaGreatDoor
abbrev Env:=ByteArray→Int
def Env.ext (kn:Env) (s:ByteArray) (v:Int):Env:=fun t=>if t=s then v else kn t
inductive Ev where
 | bind (k:Nat) (v:Int)
 | flt (k c:Nat)
def useE (nd:Nat→Nd) (kn:Env) (k:Nat):List Ev:=.bind k (kn (nd k).text) :: (if kn (nd k).text=-1 then [.flt k 9] else [])
def mkE (nd:Nat→Nd) (kn:Env) (k:Nat):List Ev:=if kn (nd k).text=(k:Int) then [] else [.flt k 8]
def inL (t:ByteArray) (ns:List ByteArray):Bool:=ns.any fun s=>decide (s=t)
def prm (nd:Nat→Nd) (o:List (List Nat)) (W:Env→Nat→List Ev):List Nat→Env→List ByteArray→Bool→List Ev × Env
 | [],kn,_,_=>([],kn)
 | p :: ps,kn,ns,d =>
  ((o.getD p []).flatMap (W kn) ++ ((if inL (nd p).text ns=true then [.flt p 8] else []) ++ ((if d=true∧o.getD p []=[] then [.flt p 10] else []) ++
   (prm nd o W ps (kn.ext (nd p).text p) ((nd p).text :: ns) (d || !(o.getD p []).isEmpty)).1)),
   (prm nd o W ps (kn.ext (nd p).text p) ((nd p).text :: ns) (d || !(o.getD p []).isEmpty)).2)
def fnE (nd:Nat→Nd) (o:List (List Nat)) (W:Env→Nat→List Ev) (ks:List Nat) (kn:Env):List Ev :=
 (prm nd o W ks.dropLast kn [] false).1 ++ W (prm nd o W ks.dropLast kn [] false).2 (ks.getLastD 0)
def nodeE (nd:Nat→Nd) (o:List (List Nat)) (W:Env→Nat→List Ev) (k:Nat) (kn:Env):List Ev :=
 if (nd k).kind=5 then useE nd kn k
 else if (nd k).kind=14∨(nd k).kind=16 then W kn ((o.getD k []).getD 0 0) ++ ((o.getD k []).drop 1).flatMap (W (kn.ext (nd k).text k))
 else if (nd k).kind=15∨(nd k).kind=20 then fnE nd o W (o.getD k []) kn
 else if (nd k).kind=23 then []
 else (o.getD k []).flatMap (W kn)
def wk (nd:Nat→Nd) (o:List (List Nat)) (k:Nat) (kn:Env):List Ev :=
 nodeE nd o (fun kn j=>if _h:j < k then wk nd o j kn else []) k kn
termination_by k
def Down (o:List (List Nat)):Prop:=∀ k,∀ j ∈ o.getD k [],j < k
theorem flatMap_congr' {α β:Type} {l:List α} {f g:α→List β} (h:∀ x ∈ l,f x=g x):l.flatMap f=l.flatMap g:=by
 induction l with
 | nil=>rfl
 | cons a l ih=>rw [List.flatMap_cons,List.flatMap_cons,h a (by simp),ih fun x hx=>h x (by simp [hx])]
theorem prm_congr {nd:Nat→Nd} {o:List (List Nat)} {V W:Env→Nat→List Ev} (ps:List Nat) (h:∀ p ∈ ps,∀ j ∈ o.getD p [],∀ kn,V kn j=W kn j) (kn:Env) (ns:List ByteArray) (d:Bool):prm nd o V ps kn ns d=prm nd o W ps kn ns d:=by
 induction ps generalizing kn ns d with
 | nil=>rfl
 | cons p ps ih =>
  simp only [prm]
  rw [ih (fun q hq=>h q (by simp [hq])),flatMap_congr' (g:=W kn) fun j hj=>h p (by simp) j hj kn]
theorem dropLast_sub {l:List Nat} {x:Nat} (h:x ∈ l.dropLast):x ∈ l:=List.dropLast_subset _ h
theorem getLastD_mem {l:List Nat} (h:l≠[]):l.getLastD 0 ∈ l:=by
 cases l with
 | nil=>exact absurd rfl h
 | cons a l=>simp [List.getLastD]
theorem nodeE_congr {nd:Nat→Nd} {o:List (List Nat)} {V W:Env→Nat→List Ev} {k:Nat} (hd:Down o) (h:∀ j,j < k→∀ kn,V kn j=W kn j) (h1:(nd k).kind=14∨(nd k).kind=16∨(nd k).kind=15∨(nd k).kind=20→o.getD k []≠[]) (kn:Env):nodeE nd o V k kn=nodeE nd o W k kn:=by
 unfold nodeE
 split
 ·rfl
 split
 ·rename_i hk
  have hne:=h1 (by omega)
  obtain ⟨a,t,e⟩:=List.exists_cons_of_ne_nil hne
  rw [h _ (hd k _ (by rw [e];simp)),flatMap_congr' fun j hj=>h j (hd k j (List.mem_of_mem_drop hj)) _]
 split
 ·rename_i hk
  have hne:=h1 (by omega)
  unfold fnE
  rw [prm_congr (V:=V) (W:=W) _ fun p hp j hj kn=>h j (Nat.lt_trans (hd p j hj) (hd k p (dropLast_sub hp))) kn]
  rw [h _ (hd k _ (getLastD_mem hne))]
 split
 ·rfl
 ·exact flatMap_congr' fun j hj=>h j (hd k j hj) kn
def Kidded (nd:Nat→Nd) (o:List (List Nat)) (k:Nat):Prop:=(nd k).kind=14∨(nd k).kind=16∨(nd k).kind=15∨(nd k).kind=20→o.getD k []≠[]
theorem wk_eq {nd:Nat→Nd} {o:List (List Nat)} {k:Nat} (hd:Down o) (hk:Kidded nd o k) (kn:Env):wk nd o k kn=nodeE nd o (fun kn j=>wk nd o j kn) k kn:=by
 rw [wk]
 exact nodeE_congr hd (fun j hj kn=>by simp [hj]) hk kn
def fls:List Ev→List (Nat × Nat)
 | []=>[]
 | .bind _ _ :: r=>fls r
 | .flt k c :: r=>(k,c) :: fls r
theorem fls_append (a b:List Ev):fls (a ++ b)=fls a ++ fls b:=by
 induction a with
 | nil=>rfl
 | cons x a ih=>cases x <;> simp [fls,ih]
theorem fls_flatMap {α:Type} (l:List α) (f:α→List Ev):fls (l.flatMap f)=l.flatMap fun x=>fls (f x):=by
 induction l with
 | nil=>rfl
 | cons a l ih=>rw [List.flatMap_cons,List.flatMap_cons,fls_append,ih]
def apB (bn:Nat→Int):List Ev→Nat→Int
 | []=>bn
 | .bind k v :: r=>apB (fun j=>if j=k then v else bn j) r
 | .flt _ _ :: r=>apB bn r
theorem apB_append (bn:Nat→Int) (a b:List Ev):apB bn (a ++ b)=apB (apB bn a) b:=by
 induction a generalizing bn with
 | nil=>rfl
 | cons x a ih=>cases x <;> simp [apB,ih]
def Same (a b:Env):Prop:=∀ t,a t=-1 ↔ b t=-1
theorem Same.ext {a b:Env} (h:Same a b) (s:ByteArray) (k:Nat):Same (a.ext s k) (b.ext s k):=by
 intro t
 unfold Env.ext
 split
 ·omega
 ·exact h t
theorem fls_use {nd:Nat→Nd} {a b:Env} (h:Same a b) (k:Nat):fls (useE nd a k)=fls (useE nd b k):=by
 unfold useE
 by_cases e:a (nd k).text=-1
 ·rw [if_pos e,if_pos ((h _).1 e)];rfl
 ·rw [if_neg e,if_neg (fun e2=>e ((h _).2 e2))];rfl
theorem prm_same {nd:Nat→Nd} {o:List (List Nat)} {W:Env→Nat→List Ev} (ps:List Nat) (h:∀ p ∈ ps,∀ j ∈ o.getD p [],∀ a b,Same a b→fls (W a j)=fls (W b j)) (a b:Env) (hs:Same a b) (ns:List ByteArray) (d:Bool) :
  fls (prm nd o W ps a ns d).1=fls (prm nd o W ps b ns d).1∧Same (prm nd o W ps a ns d).2 (prm nd o W ps b ns d).2:=by
 induction ps generalizing a b ns d with
 | nil=>exact ⟨rfl,hs⟩
 | cons p ps ih =>
  have i:=ih (fun q hq=>h q (by simp [hq])) (a.ext (nd p).text p) (b.ext (nd p).text p) (hs.ext _ _) ((nd p).text :: ns) (d || !(o.getD p []).isEmpty)
  simp only [prm,fls_append]
  rw [i.1,fls_flatMap,fls_flatMap,flatMap_congr' fun j hj=>h p (by simp) j hj a b hs]
  exact ⟨rfl,i.2⟩
theorem fls_same {nd:Nat→Nd} {o:List (List Nat)} (hd:Down o) (N:Nat) (hk:∀ k,k < N→Kidded nd o k) (k:Nat):k < N→∀ a b,Same a b→fls (wk nd o k a)=fls (wk nd o k b):=by
 induction k using Nat.strongRecOn with
 | ind k ih =>
  intro hN a b hs
  rw [wk_eq hd (hk k hN),wk_eq hd (hk k hN)]
  unfold nodeE
  split
  ·exact fls_use hs k
  split
  ·rename_i h0
   obtain ⟨x,t,e⟩:=List.exists_cons_of_ne_nil (hk k hN (by omega))
   rw [fls_append,fls_append,fls_flatMap,fls_flatMap,ih _ (hd k _ (by rw [e];simp)) (by have:=hd k x (by rw [e];simp);rw [e];simp;omega) a b hs,flatMap_congr' fun j hj=>ih j (hd k j (List.mem_of_mem_drop hj)) (by have:=hd k j (List.mem_of_mem_drop hj);omega) _ _ (hs.ext (nd k).text k)]
  split
  ·rename_i h0 _
   have p:=prm_same (nd:=nd) (o:=o) (W:=fun kn j=>wk nd o j kn) (o.getD k []).dropLast (fun p hp j hj a b hs=>ih j (Nat.lt_trans (hd p j hj) (hd k p (dropLast_sub hp))) (by have:=hd p j hj;have:=hd k p (dropLast_sub hp);omega) a b hs) a b hs [] false
   unfold fnE
   rw [fls_append,fls_append,p.1,ih _ (hd k _ (getLastD_mem (hk k hN (by omega)))) (by have:=hd k _ (getLastD_mem (hk k hN (by omega)));omega) _ _ p.2]
  split
  ·rfl
  ·rw [fls_flatMap,fls_flatMap]
   exact flatMap_congr' fun j hj=>ih j (hd k j hj) (by have:=hd k j hj;omega) a b hs
def low (o:List (List Nat)) (k:Nat):Nat :=
 match o.getD k [] with
 | []=>k
 | x :: _=>if _h:x < k then low o x else k
termination_by k
def Tile (o:List (List Nat)):Nat→List Nat→Nat→Prop
 | a,[],b=>a=b
 | a,x :: r,b=>low o x=a∧a≤x∧Tile o (x+1) r b
theorem Tile.le {o:List (List Nat)} {s:List Nat} {a b:Nat} (h:Tile o a s b):a≤b:=by
 induction s generalizing a with
 | nil=>exact Nat.le_of_eq h
 | cons x r ih=>have:=ih h.2.2;have:=h.2.1;omega
theorem Tile.split {o:List (List Nat)} {s t:List Nat} {a b:Nat} (h:Tile o a (s ++ t) b):∃ m,Tile o a s m∧Tile o m t b:=by
 induction s generalizing a with
 | nil=>exact ⟨a,rfl,h⟩
 | cons x r ih =>
  obtain ⟨m,h1,h2⟩:=ih h.2.2
  exact ⟨m,⟨h.1,h.2.1,h1⟩,h2⟩
theorem Tile.snoc {o:List (List Nat)} {s:List Nat} {a m x:Nat} (h:Tile o a s m) (h1:low o x=m) (h2:m≤x):Tile o a (s ++ [x]) (x+1):=by
 induction s generalizing a with
 | nil =>
  have e:a=m:=h
  exact ⟨by rw [h1,e],by omega,rfl⟩
 | cons y r ih=>exact ⟨h.1,h.2.1,ih h.2.2⟩
theorem Tile.lt {o:List (List Nat)} {s:List Nat} {a b:Nat} (h:Tile o a s b):∀ x ∈ s,a≤x∧x < b:=by
 induction s generalizing a with
 | nil=>intro x hx;cases hx
 | cons y r ih =>
  intro x hx
  have:=h.2.1
  have:=h.2.2.le
  rcases List.mem_cons.1 hx with e | hx
  ·subst e;omega
  ·have:=ih h.2.2 x hx;omega
theorem kidsF_at {nd:Nat→Nd} {N:Nat} {O:List (List Nat)} {S:List Nat} (h:kidsF nd N=some (O,S)) (j:Nat) (hj:j < N):∃ sp sk,kidsF nd j=some (O.take j,sp ++ sk)∧kidsF nd (j+1)=some (O.take (j+1),sp ++ [j])∧O.getD j []=sk:=by
 obtain ⟨s',h1⟩:=kidsF_pre h (j+1) hj
 obtain ⟨o',sp,sk,h2,h3,rfl,_⟩:=kidsF_step h1
 have l2:=(kidsF_len nd _ _ _ h2).1
 have lO:=(kidsF_len nd _ _ _ h).1
 have e:O.take j=o':=by
  have:(O.take (j+1)).take j=(o' ++ [sk]).take j:=by rw [h3]
  rw [List.take_take,Nat.min_eq_left (by omega)] at this
  rw [this,← l2];simp
 refine ⟨sp,sk,by rw [e];exact h2,h1,?_⟩
 have:(O.take (j+1))[j]?=(o' ++ [sk])[j]?:=by rw [h3]
 rw [List.getElem?_take_of_lt (by omega),List.getElem?_append_right (by omega),l2] at this
 rw [List.getD_eq_getElem?_getD,this];simp
theorem tile_all {nd:Nat→Nd} {N:Nat} {O:List (List Nat)} {S:List Nat} (h:kidsF nd N=some (O,S)) (j:Nat) (hj:j≤N):∃ s,kidsF nd j=some (O.take j,s)∧Tile O 0 s j∧∀ k,k < j→Tile O (low O k) (O.getD k []) k:=by
 induction j with
 | zero=>exact ⟨[],rfl,rfl,fun k hk=>absurd hk (Nat.not_lt_zero _)⟩
 | succ j ih =>
  obtain ⟨s,h1,h2,h3⟩:=ih (by omega)
  obtain ⟨sp,sk,h4,h5,h6⟩:=kidsF_at h j (by omega)
  rw [h1] at h4
  injection h4 with h4
  injection h4 with _ h4
  subst h4
  obtain ⟨m,t1,t2⟩:=h2.split
  have hl:low O j=m:=by
   rw [low,h6]
   cases sk with
   | nil=>exact t2.symm
   | cons x r =>
    have:=t2.lt x (by simp)
    simp only [this.2,dite_true]
    exact t2.1
  refine ⟨_,h5,t1.snoc hl t2.le,fun k hk=>?_⟩
  by_cases e:k=j
  ·subst e;rw [h6,hl];exact t2
  ·exact h3 k (by omega)
theorem down_of {nd:Nat→Nd} {N:Nat} {O:List (List Nat)} {S:List Nat} (h:kidsF nd N=some (O,S)):Down O:=by
 intro k j hj
 have hl:=(kidsF_len nd _ _ _ h).1
 by_cases hk:k < N
 ·obtain ⟨_,_,_,h3⟩:=tile_all h N (Nat.le_refl _)
  exact ((h3 k hk).lt j hj).2
 ·rw [List.getD_eq_getElem?_getD,List.getElem?_eq_none (by omega)] at hj
  cases hj
def FLt (x y:Nat × Nat):Prop:=x.1 < y.1∨x.1=y.1∧x.2 < y.2
def Srt (a b:Nat) (l:List (Nat × Nat)):Prop:=l.Pairwise FLt∧∀ x ∈ l,a≤x.1∧x.1 < b∧8≤x.2
theorem Srt.nil (a b:Nat):Srt a b []:=⟨List.Pairwise.nil,fun x h=>by cases h⟩
theorem Srt.append {a b c:Nat} {l r:List (Nat × Nat)} (h1:Srt a b l) (h2:Srt b c r) (hab:a≤b) (hbc:b≤c):Srt a c (l ++ r):=by
 refine ⟨List.pairwise_append.2 ⟨h1.1,h2.1,fun x hx y hy=>.inl ?_⟩,fun x hx=>?_⟩
 ·have:=h1.2 x hx;have:=h2.2 y hy;omega
 ·rcases List.mem_append.1 hx with hx | hx
  ·have:=h1.2 x hx;omega
  ·have:=h2.2 x hx;omega
theorem Srt.mono {a b c d:Nat} {l:List (Nat × Nat)} (h:Srt a b l) (h1:c≤a) (h2:b≤d):Srt c d l:=⟨h.1,fun x hx=>by have:=h.2 x hx;omega⟩
theorem Srt.one (k c:Nat) (hc:8≤c):Srt k (k+1) [(k,c)]:=⟨by simp,fun x hx=>by simp at hx;subst hx;exact ⟨Nat.le_refl _,Nat.lt_succ_self _,hc⟩⟩
theorem srt_tile {o:List (List Nat)} {f:Nat→List (Nat × Nat)} (s:List Nat) (a b:Nat) (h:Tile o a s b) (hf:∀ x ∈ s,Srt (low o x) (x+1) (f x)):Srt a b (s.flatMap f):=by
 induction s generalizing a with
 | nil=>exact Srt.nil _ _
 | cons x r ih =>
  rw [List.flatMap_cons]
  have:=hf x (by simp)
  rw [h.1] at this
  exact this.append (ih (x+1) h.2.2 fun y hy=>hf y (by simp [hy])) (by have:=h.2.1;omega) h.2.2.le
theorem srt_prm {nd:Nat→Nd} {o:List (List Nat)} {W:Env→Nat→List Ev} (ps:List Nat) (a b:Nat) (h:Tile o a ps b) (ht:∀ p ∈ ps,Tile o (low o p) (o.getD p []) p) (hW:∀ p ∈ ps,∀ j ∈ o.getD p [],∀ kn,Srt (low o j) (j+1) (fls (W kn j))) (kn:Env) (ns:List ByteArray) (d:Bool):Srt a b (fls (prm nd o W ps kn ns d).1):=by
 induction ps generalizing a kn ns d with
 | nil=>exact Srt.nil _ _
 | cons p ps ih =>
  have i:=ih (p+1) h.2.2 (fun q hq=>ht q (by simp [hq])) (fun q hq=>hW q (by simp [hq])) (kn.ext (nd p).text p) ((nd p).text :: ns) (d || !(o.getD p []).isEmpty)
  have t:=ht p (by simp)
  rw [h.1] at t
  have k1:Srt a p (fls ((o.getD p []).flatMap (W kn))):=by
   rw [fls_flatMap]
   exact srt_tile _ _ _ t fun j hj=>hW p (by simp) j hj kn
  have k2:Srt p (p+1) (fls (if inL (nd p).text ns=true then [.flt p 8] else []) ++ fls (if d=true∧o.getD p []=[] then [.flt p 10] else [])):=by
   split <;> split <;> simp only [fls,List.nil_append,List.append_nil]
   ·refine ⟨by simp [FLt],fun x hx=>?_⟩
    simp at hx
    rcases hx with rfl | rfl <;> simp
   ·exact Srt.one _ _ (by decide)
   ·exact Srt.one _ _ (by decide)
   ·exact Srt.nil _ _
  have:=h.2.1
  have:=h.2.2.le
  simp only [prm,fls_append]
  rw [← List.append_assoc (fls (if inL (nd p).text ns=true then [.flt p 8] else []))]
  exact k1.append (k2.append i (by omega) (by omega)) (by omega) (by omega)
theorem last_split {l:List Nat} (h:l≠[]):l=l.dropLast ++ [l.getLastD 0]:=by
 have:=List.dropLast_concat_getLast h
 rw [List.getLastD_eq_getLast?,List.getLast?_eq_some_getLast h]
 exact this.symm
theorem srt_wk {nd:Nat→Nd} {o:List (List Nat)} (hd:Down o) (N:Nat) (hk:∀ k,k < N→Kidded nd o k) (ht:∀ k,k < N→Tile o (low o k) (o.getD k []) k) (k:Nat):k < N→∀ kn,Srt (low o k) (k+1) (fls (wk nd o k kn))∧(¬ (nd k).kind=5→Srt (low o k) k (fls (wk nd o k kn))):=by
 induction k using Nat.strongRecOn with
 | ind k ih =>
  intro hN kn
  have t:=ht k hN
  have tl:=t.le
  have go:∀ j ∈ o.getD k [],∀ kn,Srt (low o j) (j+1) (fls (wk nd o j kn)):=fun j hj kn=>(ih j (hd k j hj) (by have:=hd k j hj;omega) kn).1
  rw [wk_eq hd (hk k hN)]
  by_cases h5:(nd k).kind=5
  ·refine ⟨?_,fun h=>absurd h5 h⟩
   unfold nodeE
   rw [if_pos h5]
   unfold useE
   split
   ·exact (Srt.one k 9 (by decide)).mono tl (Nat.le_refl _)
   ·exact Srt.nil _ _
  ·suffices h:Srt (low o k) k (fls (nodeE nd o (fun kn j=>wk nd o j kn) k kn)) from ⟨h.mono (Nat.le_refl _) (Nat.le_succ _),fun _=>h⟩
   unfold nodeE
   rw [if_neg h5]
   split
   ·rename_i h0
    obtain ⟨x,r,e⟩:=List.exists_cons_of_ne_nil (hk k hN (by omega))
    rw [e] at t go ⊢
    rw [fls_append,fls_flatMap]
    have:=go x (by simp) kn
    rw [t.1] at this
    exact this.append (srt_tile _ _ _ t.2.2 fun j hj=>go j (by simp [show j ∈ r from hj]) _) (by have:=t.2.1;omega) t.2.2.le
   split
   ·rename_i h0 _
    have hne:=hk k hN (by omega)
    have hm:=getLastD_mem hne
    unfold fnE
    rw [last_split hne] at t
    obtain ⟨m,t1,t2⟩:=t.split
    have:=go _ hm (prm nd o (fun kn j=>wk nd o j kn) (o.getD k []).dropLast kn [] false).2
    rw [t2.1] at this
    rw [fls_append]
    have e:(o.getD k []).getLastD 0+1=k:=t2.2.2
    have:=(srt_prm (nd:=nd) (W:=fun kn j=>wk nd o j kn) _ _ _ t1 (fun p hp=>ht p (by have:=hd k p (dropLast_sub hp);omega)) (fun p hp j hj kn=>(ih j (by have:=hd k p (dropLast_sub hp);have:=hd p j hj;omega) (by have:=hd k p (dropLast_sub hp);have:=hd p j hj;omega) kn).1) kn [] false).append this t1.le (by have:=t2.2.1;omega)
    exact this.mono (Nat.le_refl _) (by omega)
   split
   ·exact Srt.nil _ _
   ·rw [fls_flatMap]
    exact srt_tile _ _ _ t fun j hj=>go j hj kn
end Go.Proofs.YthnohneaanphbaaGreatDoor
namespace Go.Proofs.YthnohneaanphbaaGreatDoor
open Go.RowKit
set_option maxRecDepth 20000
def FiveA (W:World) (a:Addr) (x:Nd):Prop :=
 W.cell? a=some (.int .i64 x.kind)∧W.cell? ⟨a.block,a.off+1,none⟩=some (.int .i64 x.op)∧W.cell? ⟨a.block,a.off+2,none⟩=some (.int .i64 x.n)∧W.cell? ⟨a.block,a.off+3,none⟩=some (.string x.text)∧W.cell? ⟨a.block,a.off+4,none⟩=some (.int .i64 x.kids)
theorem add_blockC (a:Addr) (n:Nat):(a.add n).block=a.block:=by unfold Addr.add;split <;> rfl
def NodesA (W:World) (ad:Option Addr) (N:Nat) (nd:Nat→Nd):Prop:=N=0∨∃ a,ad=some a∧a.block < W.heap.size∧∀ i,i < N→FiveA W (a.add (i * 5)) (nd i)
theorem NodesA.below {W W':World} {ad:Option Addr} {N:Nat} {nd:Nat→Nd} (h:NodesA W ad N nd) (hb:Below W.heap.size W W'):NodesA W' ad N nd:=by
 rcases h with h | ⟨a,rfl,h1,h2⟩
 ·exact .inl h
 ·refine .inr ⟨a,rfl,Nat.lt_of_lt_of_le h1 hb.size,fun i hi=>?_⟩
  have hk:∀ p:Addr,p.block=a.block→W'.cell? p=W.cell? p:=fun p hp=>hb.cell (by rw [hp];exact h1)
  obtain ⟨c0,c1,c2,c3,c4⟩:=h2 i hi
  exact ⟨(hk _ (add_blockC a _)).trans c0,(hk ⟨_,_,none⟩ (add_blockC a _)).trans c1,(hk ⟨_,_,none⟩ (add_blockC a _)).trans c2,(hk ⟨_,_,none⟩ (add_blockC a _)).trans c3,(hk ⟨_,_,none⟩ (add_blockC a _)).trans c4⟩
theorem info_ndC:(Tryz.prog.info? 35).map (fun i=>(i.zero,i.size,i.bytes))=some (some (.agg #[.int .i64 0,.int .i64 0,.int .i64 0,.string ⟨#[]⟩,.int .i64 0]),5,48):=by kernel_rfl
def Filling (W:World) (g n j:Nat) (nd:Nat→Nd):Prop:=(∃ cur,W.heap[g]?=some (.cells cur 35 (0,0))∧cur.size=n * 5)∧NodesAt W g j nd
theorem five_room {W:World} {g j:Nat} {cur:Array Value} {t:TypeId} (h:W.heap[g]?=some (.cells cur t (0,0))) (hj:j * 5+4 < cur.size) :
  (∃ v,W.cell? ⟨g,j * 5,none⟩=some v)∧(∃ v,W.cell? ⟨g,j * 5+1,none⟩=some v)∧(∃ v,W.cell? ⟨g,j * 5+2,none⟩=some v)∧(∃ v,W.cell? ⟨g,j * 5+3,none⟩=some v)∧(∃ v,W.cell? ⟨g,j * 5+4,none⟩=some v) ∧
  W.frozen? ⟨g,j * 5,none⟩=false∧W.frozen? ⟨g,j * 5+1,none⟩=false∧W.frozen? ⟨g,j * 5+2,none⟩=false∧W.frozen? ⟨g,j * 5+3,none⟩=false∧W.frozen? ⟨g,j * 5+4,none⟩=false:=by
 have c:∀ i,i < cur.size→∃ v,W.cell? ⟨g,i,none⟩=some v:=fun i hi=>⟨cur[i],by unfold World.cell?;rw [h];simp [hi]⟩
 have f:∀ i,W.frozen? ⟨g,i,none⟩=false:=fun i=>by unfold World.frozen?;rw [h];simp
 exact ⟨c _ (by omega),c _ (by omega),c _ (by omega),c _ (by omega),c _ (by omega),f _,f _,f _,f _,f _⟩
theorem set_atC {W:World} {g i:Nat} {cur:Array Value} {t:TypeId} (v:Value) (h:W.heap[g]?=some (.cells cur t (0,0))):(W.setCell ⟨g,i,none⟩ v).heap[g]?=some (.cells (cur.setIfInBounds i v) t (0,0)):=by
 unfold World.setCell
 simp only [Array.getElem?_modify,h]
 simp
theorem below_set {B:Nat} {w w':World} (h:Below B w w') (g i:Nat) (hg:B≤g) (v:Value):Below B w (w'.setCell ⟨g,i,none⟩ v):=h.setCell hg v
end Go.Proofs.YthnohneaanphbaaGreatDoor
namespace Go.Proofs.YthnohneaanphbaaGreatDoor
open Go.RowKit Go.Maps Go.WideMaps
set_option maxRecDepth 20000
structure Sv (S:Nat→Prop) (w w':World):Prop where
 os:w'.os=w.os
 tape:w'.tape=w.tape
 output:w'.output=w.output
 size:w.heap.size≤w'.heap.size
 block:∀ k,k < w.heap.size→¬ S k→w'.heap[k]?=w.heap[k]?
theorem Sv.refl (S:Nat→Prop) (w:World):Sv S w w:=⟨rfl,rfl,rfl,Nat.le_refl _,fun _ _ _=>rfl⟩
theorem Sv.trans {S:Nat→Prop} {a b c:World} (h:Sv S a b) (k:Sv S b c):Sv S a c :=
 ⟨k.os.trans h.os,k.tape.trans h.tape,k.output.trans h.output,Nat.le_trans h.size k.size,fun i hi hs=>(k.block i (Nat.lt_of_lt_of_le hi h.size) hs).trans (h.block i hi hs)⟩
theorem Sv.of_below {S:Nat→Prop} {a b:World} (h:Below a.heap.size a b):Sv S a b:=⟨h.os,h.tape,h.output,h.size,fun k hk _=>h.block k hk⟩
theorem Sv.below {S:Nat→Prop} {a b:World} (h:Sv S a b) {B:Nat} (hB:B≤a.heap.size) (hS:∀ k,S k→B≤k):Below B a b:=⟨h.os,h.tape,h.output,h.size,fun k hk=>h.block k (by omega) fun hs=>by have:=hS k hs;omega⟩
theorem Sv.alloc {S:Nat→Prop} {a w:World} (h:Sv S a w) (o:Obj):Sv S a (w.alloc o):=h.trans (Sv.of_below ((Below.refl _ _).alloc (Nat.le_refl _) o))
theorem Sv.drew {S:Nat→Prop} {a w:World} (h:Sv S a w):Sv S a w.drew:=⟨h.os,h.tape,h.output,h.size,h.block⟩
theorem Sv.setCell {S:Nat→Prop} {a w:World} (h:Sv S a w) {p:Addr} (hp:S p.block∨a.heap.size≤p.block) (u:Value):Sv S a (w.setCell p u) :=
 ⟨h.os,h.tape,h.output,by have:=h.size;simpa [World.setCell] using this,fun k hk hs=>(Below.heap_setCell _ _ _ _ (by rintro rfl;rcases hp with hp | hp;exact hs hp;omega)).trans (h.block k hk hs)⟩
theorem Sv.grown {S:Nat→Prop} {a w w':World} {row:Option Nat} (h:Sv S a w) (hg:w.grownBy w' row) (hr:∀ k,row=some k→S k∨a.heap.size≤k):Sv S a w' :=
 ⟨hg.os.trans h.os,hg.tape.trans h.tape,hg.output.trans h.output,Nat.le_trans h.size hg.size,fun k hk hs=>(hg.block k (Nat.lt_of_lt_of_le hk h.size) (fun e=>by rcases hr k e.symm with h | h;exact hs h;omega)).trans (h.block k hk hs)⟩
theorem Sv.cell {S:Nat→Prop} {a w:World} (h:Sv S a w) {p:Addr} (hp:p.block < a.heap.size) (hs:¬ S p.block):w.cell? p=a.cell? p:=World.cell?_of_block (w:=a) (h.block p.block hp hs)
def Stb (S:Nat→Prop) (w:World) (Q:World→Prop):Prop:=∀ w',Sv S w w'→Q w'
theorem Stb.now {S:Nat→Prop} {w:World} {Q:World→Prop} (h:Stb S w Q):Q w:=h w (Sv.refl S w)
theorem Stb.go {S:Nat→Prop} {w w':World} {Q:World→Prop} (h:Stb S w Q) (hs:Sv S w w'):Stb S w' Q:=fun w'' h2=>h w'' (hs.trans h2)
def MapIs (W:World) (m n:Nat) (f:ByteArray→Option Int):Prop:=∃ D:DataW Unit,W.ownsMap Tryz.prog 9 (plainElem Tryz.prog 3) m n D ∧
 ∀ t,(f t=none→Maps.has D (keyL t)=false)∧∀ v,f t=some v→Maps.has D (keyL t)=true∧D.atKey (keyL t) (.lit (.int .i64 0))=.lit (.int .i64 v)
theorem MapIs.lt {W:World} {m n:Nat} {f:ByteArray→Option Int} (h:MapIs W m n f):m < W.heap.size:=by
 obtain ⟨D,h,_⟩:=h
 exact h.lt
theorem MapIs.keep {W W':World} {m n:Nat} {f:ByteArray→Option Int} (h:MapIs W m n f) (hk:W'.heap[m]?=W.heap[m]?):MapIs W' m n f:=by
 obtain ⟨D,⟨es,clock,h1,h2⟩,h3⟩:=h
 exact ⟨D,⟨es,clock,hk.trans h1,h2⟩,h3⟩
theorem MapIs.made (w:World):MapIs (w.alloc (.map #[] 0)) w.heap.size 0 (fun _=>none) :=
 ⟨.map [],World.ownsMap_made _ _ _ _,fun t=>⟨fun _=>by simp [Maps.has_eq],fun v h=>by cases h⟩⟩
theorem keyL_key (t:ByteArray):WideAt.IsKeyLit (keyL t):=by simp [keyL,WideAt.IsKeyLit]
def setF (f:ByteArray→Option Int) (t:ByteArray) (v:Int):ByteArray→Option Int:=fun u=>if u=t then some v else f u
theorem MapIs.put {W:World} {m n:Nat} {f:ByteArray→Option Int} (h:MapIs W m n f) (hn:n < maxLen) (t:ByteArray) (ht:t.size≤maxLen) (v:Int) (hv:(Lit.int .i64 v).wf=true) :
  ∃ w',(Instr.mapUpdate 76 (.map (some m)) (.string t) (.int .i64 v)).run Tryz.prog W=.ok () w'∧MapIs w' m (n+1) (setF f t v)∧W.grownBy w' (some m):=by
 obtain ⟨D,hown,hf⟩:=h
 obtain ⟨w',hrun,hown',hg⟩:=hown.update (string_keyed Tryz.underlying9) Tryz.underlying76 hn (keyOf_string_mk Tryz.underlying9 ht) (plainElem_int Tryz.underlying3 hv)
 refine ⟨w',hrun,⟨_,hown',fun u=>?_⟩,hg⟩
 have hm:=(hown.tidy (string_keyed Tryz.underlying9)).isMap
 unfold setF
 by_cases e:u=t
 ·subst e
  rw [if_pos rfl]
  refine ⟨fun h=>(by cases h),fun v' h=>?_⟩
  cases h
  exact ⟨Maps.has_put_same hm (keyL_key u) _,Maps.atKey_put_same hm (keyL_key u) _ _⟩
 ·rw [if_neg e]
  refine ⟨fun h=>?_,fun v' h=>⟨?_,?_⟩⟩
  ·exact (Maps.has_put_other (keyL_ne e) _).trans ((hf u).1 h)
  ·exact (Maps.has_put_other (keyL_ne e) _).trans ((hf u).2 v' h).1
  ·exact (Maps.atKey_put_other (keyL_ne e) _ _).trans ((hf u).2 v' h).2
theorem zero_int (w:World):(zeroValue 3).run Tryz.prog w=.ok (.int .i64 0) w:=rfl
theorem MapIs.get {W:World} {m n:Nat} {f:ByteArray→Option Int} (h:MapIs W m n f) (t:ByteArray) (ht:t.size≤maxLen) :
  (Instr.lookup 76 (.map (some m)) (.string t) true).run Tryz.prog W=.ok (.tuple #[.int .i64 ((f t).getD 0),.bool (f t).isSome]) W:=by
 obtain ⟨D,hown,hf⟩:=h
 obtain ⟨v,ps,hrun,hv⟩:=hown.look_ok (string_keyed Tryz.underlying9) Tryz.underlying76 (zero_int W) (plainElem_int Tryz.underlying3 (by decide)) (keyOf_string_mk Tryz.underlying9 ht)
 obtain ⟨c,rfl,hc,_⟩:=plainElem_int_inv Tryz.underlying3 hv
 have hc1:D.atKey (keyL t) (.lit (.int .i64 0))=.lit (.int .i64 c):=congrArg Prod.fst hc
 rw [hrun]
 cases hft:f t with
 | none =>
  have h1:=(hf t).1 hft
  have h2:=Maps.atKey_of_not_has h1 (DataW.lit (.int .i64 0))
  rw [hc1] at h2
  injection h2 with h2
  injection h2 with _ h2
  have h3:Maps.has D (Lit.string t.data.toList)=false:=h1
  rw [h3,h2]
  rfl
 | some v =>
  obtain ⟨h1,h2⟩:=(hf t).2 v hft
  rw [hc1] at h2
  injection h2 with h2
  injection h2 with _ h2
  have h3:Maps.has D (Lit.string t.data.toList)=true:=h1
  rw [h3,h2]
  rfl
inductive Scp (W:World):Nat→Value→Env→Prop
 | nil (r:Nat):Scp W r (.pointer none) (fun _=>-1)
 | cons {r b m n:Nat} {f:ByteArray→Option Int} {next:Value} {kn:Env}:b < r→W.cell? ⟨b,0,none⟩=some (.map (some m))→W.cell? ⟨b,1,none⟩=some next→MapIs W m n f→Scp W b next kn→Scp W r (.pointer (some ⟨b,0,none⟩)) (fun t=>(f t).getD (kn t))
theorem Scp.mono {W:World} {r r':Nat} {v:Value} {kn:Env} (h:Scp W r v kn) (hr:r≤r'):Scp W r' v kn:=by
 cases h with
 | nil=>exact .nil _
 | cons h1 h2 h3 h4 h5=>exact .cons (by omega) h2 h3 h4 h5
end Go.Proofs.YthnohneaanphbaaGreatDoor
