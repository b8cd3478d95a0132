import Derived.Lib.Bytealg
import Derived.Lib.Strings
import Derived.BigCall
import Derived.Deep.QuietTactic
import Derived.Test.YthnohneaanphbaaGreatDoorJ05
import Derived.Test.YthnohneaanphbaaGreatDoorJ00
import Derived.Test.YthnohneaanphbaaGreatDoorJ04
import Derived.Test.YthnohneaanphbaaGreatDoorJ02
import Derived.Test.YthnohneaanphbaaGreatDoorJ14
import Derived.Test.YthnohneaanphbaaGreatDoorJ09
namespace Go.Proofs.YthnohneaanphbaaGreatDoor.K
open Go.RowKit
set_option maxRecDepth 20000
theorem head_eq (s:ByteArray) (hp:0 < s.size):s.data.toList=s[0] :: s.data.toList.tail:=by
 match s,hp with
 | ⟨⟨c :: r⟩⟩,_=>rfl
 | ⟨⟨[]⟩⟩,h=>exact absurd h (by decide)
theorem len_size (s:ByteArray):s.data.toList.length=s.size:=by simp
theorem notEmpty (s:ByteArray) (hp:0 < s.size):s.toList.isEmpty=false:=by
 rw [Lib.toList_data,head_eq s hp];rfl
end Go.Proofs.YthnohneaanphbaaGreatDoor.K
namespace Go.Proofs.YthnohneaanphbaaGreatDoor
open Go.RowKit
structure Gr (w:World) where
 W:World
 h:Below w.heap.size w W
theorem wp_region_gr {P:Program} {id:Nat} {Q:Exit→Act→World→Prop} {a:Act} {w:World} {l:List Oper} (hm:P.follows .mixedOrders=true) (hB:Region.lexB .any l.toArray=true)
  (h:wpQuiet P l.toArray (fun w'=>∃ p:Gr w,w'=p.W) (fun a'=>∀ w',(∃ p:Gr w,w'=p.W)→Q .normal a' w') l a):(Code.region id l.toArray true).wp P Q a w :=
 wp_region_quiet (C:=fun w'=>∃ p:Gr w,w'=p.W) hm hB ⟨⟨w.drew,(Below.refl _ _).drew⟩,rfl⟩ (by simpa using h)
theorem Calls.gr_of {P:Program} {f:FuncId} {args:Array Value} {w:World} {p:Gr w} {v:Value} (h:Below w.heap.size w p.W→Calls P f args p.W fun e w'=>e=.returned v∧Below p.W.heap.size p.W w') :
  Calls P f args p.W fun e w''=>e=.returned v∧∃ p:Gr w,w''=p.W :=
 (h p.h).mono fun _ w' ⟨he,hb⟩=>⟨he,⟨w',p.h.trans (hb.mono p.h.size)⟩,rfl⟩
end Go.Proofs.YthnohneaanphbaaGreatDoor
namespace Go.Proofs.YthnohneaanphbaaGreatDoor
open Go.RowKit
set_option maxRecDepth 20000
theorem KidsOk_no (kind:Int) (h:kind < 1∨24 < kind) (m:Nat) (nd:Nat→Nd):¬ KidsOk kind m nd:=by
 unfold KidsOk
 rintro (h | h | h | h | h | h | h | h | h | h | h | h)
 all_goals have h0:=h.1
 all_goals omega
set_option maxHeartbeats 4000000 in
theorem KO_E (kind:Int) (hkind:kind < 1∨24 < kind):KO kind:=by
 have HNO:=hid (KidsOk_no kind hkind)
 have e1:(kind == 1)=false:=by simp;omega
 have e2:(kind == 2)=false:=by simp;omega
 have e3:(kind == 3)=false:=by simp;omega
 have e4:(kind == 4)=false:=by simp;omega
 have e5:(kind == 5)=false:=by simp;omega
 have e6:(kind == 6)=false:=by simp;omega
 have e7:(kind == 7)=false:=by simp;omega
 have e8:(kind == 8)=false:=by simp;omega
 have e9:(kind == 9)=false:=by simp;omega
 have e10:(kind == 10)=false:=by simp;omega
 have e11:(kind == 11)=false:=by simp;omega
 have e12:(kind == 12)=false:=by simp;omega
 have e13:(kind == 13)=false:=by simp;omega
 have e14:(kind == 14)=false:=by simp;omega
 have e15:(kind == 15)=false:=by simp;omega
 have e16:(kind == 16)=false:=by simp;omega
 have e17:(kind == 17)=false:=by simp;omega
 have e18:(kind == 18)=false:=by simp;omega
 have e19:(kind == 19)=false:=by simp;omega
 have e20:(kind == 20)=false:=by simp;omega
 have e21:(kind == 21)=false:=by simp;omega
 have e22:(kind == 22)=false:=by simp;omega
 have e23:(kind == 23)=false:=by simp;omega
 have e24:(kind == 24)=false:=by simp;omega
 intro b N cap g o m c nd ks w hm hb hg hn hk
 have HN:=hid hn
 have HK:=hid hk
 clear hn hk
 go_enter Tryz.func49,Tryz.ntmps49
 go_wp2
 go_loopw [8,10] (fun es i wr=>∃ j e:Nat,j≤m∧e≤j∧i=.int .i64 j∧es=.int .i64 e∧(e=j ↔ AllE j (fun i=>nd (ks i)))∧Below (w.heap.size+1) (w.alloc (.cells #[.slice (some ⟨b,0,none⟩) N cap] 25)) wr) (fun _ i _=>m - (intOf i).toNat)
 case atStart=>exact ⟨0,0,Nat.zero_le _,Nat.zero_le _,rfl,rfl,⟨fun _ i h=>absurd h (Nat.not_lt_zero _),fun _=>rfl⟩,Below.refl _ _⟩
 case round =>
  obtain ⟨j,e,hj,he,rfl,rfl,hall,hbw⟩:=hrel
  have HALL:=hid hall
  have HBW:=hid hbw
  clear hall hbw
  by_cases hlt:j < m
  ·have t0:=tree_cell HBW.out
   obtain ⟨a0,a1⟩:=(HK.out.below (btree HBW.out) hg) j hlt
   obtain ⟨a2,_⟩:=(HN.out.below (btree HBW.out) hb) (ks j) a1
   have HS:=hid (AllE_step HALL.out he)
   cases hE:isE (nd (ks j)).kind
   ·have NX:=hid (HS.out.2 hE)
    clear HS
    go_wp2
    go_region_with (go_at_call 75;refine (l2E_any _ _).mono ?_;rintro e w' ⟨rfl,hw⟩;have hw2:=hw.symm;clear hw;subst hw2)
    all_goals go_wp2
    all_goals
     go_roundw
     case rel=>exact ⟨j+1,e,by omega,by omega,by go_num,rfl,NX.out,HBW.out.drew⟩
     case measure=>simp [intOf];omega
   ·have NX:=hid (HS.out.1 hE)
    clear HS
    go_wp2
    go_region_with (go_at_call 75;refine (l2E_any _ _).mono ?_;rintro e w' ⟨rfl,hw⟩;have hw2:=hw.symm;clear hw;subst hw2)
    all_goals go_wp2
    all_goals
     go_roundw
     case rel=>exact ⟨j+1,e+1,by omega,by omega,by go_num,by go_num,NX.out,HBW.out.drew⟩
     case measure=>simp [intOf];omega
  ·obtain rfl:j=m:=by omega
   go_wp2
   go_ret
   exact ⟨says_f (HNO.out _ _),btree HBW.out⟩
def KInv (nd:Nat→Nd) (B:Nat) (W0 W:World) (j:Nat) (L:List (Nat × Nat × List Nat)) (s:List Nat) (go co gs cs:Nat):Prop :=
 kidsF nd j=some (L.map (·.2.2),s)∧RowAt W 31 go co L.length (gridRow L)∧RowAt W 3 gs cs s.length (intRow s)∧go≠gs∧B≤go∧B≤gs ∧
 (∀ x ∈ L,B≤x.1∧x.1≠go∧x.1≠gs∧RowAt W 3 x.1 x.2.1 x.2.2.length (intRow x.2.2))∧Below B W0 W
theorem KInv_step {nd:Nat→Nd} {B:Nat} {W0 W w1 w2 w3:World} {j k:Nat} {L:List (Nat × Nat × List Nat)} {sp sk:List Nat} {go co gs cs:Nat} (h:KInv nd B W0 W j L (sp ++ sk) go co gs cs) (hB:B≤W.heap.size)
  (hk:(nd j).kids=k) (hl:sk.length=k)
  {v1 v2 v3:Value} {c1:Array Value} {c2:Array Value} {t1 t2 t3:TypeId}
  (o1:w1.ownsRow B 3 1 v1 k (intRow sk)) (g1:(W.alloc (.cells #[] t1)).grownBy w1 (some W.heap.size)) (n1:¬ v1=.slice none 0 0) (b1:v1.ownBlock=some W.heap.size∨v1.ownBlock=some (W.alloc (.cells #[] t1)).heap.size)
  (o2:w2.ownsRow B 31 1 v2 (L.length+1) (gridRow L ++ [v1])) (g2:(w1.alloc (.cells c1 t2)).grownBy w2 (some go)) (n2:¬ v2=.slice none 0 0) (b2:v2.ownBlock=some go∨v2.ownBlock=some (w1.alloc (.cells c1 t2)).heap.size)
  (o3:w3.ownsRow B 3 1 v3 (sp.length+1) (intRow sp ++ [.int .i64 j])) (g3:(w2.alloc (.cells c2 t3)).grownBy w3 (some gs)) (n3:¬ v3=.slice none 0 0) (b3:v3.ownBlock=some gs∨v3.ownBlock=some (w2.alloc (.cells c2 t3)).heap.size) :
  ∃ L' s' go' co' gs' cs',v2=.slice (some ⟨go',0,none⟩) L'.length co'∧v3=.slice (some ⟨gs',0,none⟩) s'.length cs'∧KInv nd B W0 w3 (j+1) L' s' go' co' gs' cs':=by
 obtain ⟨h1,h2,h3,h4,h5,h6,h7,h8⟩:=h
 obtain ⟨r1,d1,rfl,rb1,rr1⟩:=RowAt.of_own o1 n1
 obtain ⟨r2,d2,rfl,rb2,rr2⟩:=RowAt.of_own o2 n2
 obtain ⟨r3,d3,rfl,rb3,rr3⟩:=RowAt.of_own o3 n3
 have z2:=h2.lt
 have z3:=h3.lt
 have s1:=g1.size
 have s2:=g2.size
 have s3:=g3.size
 simp only [World.size_alloc] at s1 s2 s3 b1 b2 b3
 simp only [Value.ownBlock,Option.some.injEq] at b1 b2 b3
 have hr1:W.heap.size≤r1:=by omega
 have hr1':r1 < w1.heap.size:=rr1.lt
 have hr2:r2=go∨w1.heap.size < r2:=by omega
 have hr2':r2 < w2.heap.size:=rr2.lt
 have hr3:r3=gs∨w2.heap.size < r3:=by omega
 refine ⟨L ++ [(r1,d1,sk)],sp ++ [j],r2,d2,r3,d3,by simp,by simp,?_,?_,?_,by omega,rb2,rb3,?_,?_⟩
 ·rw [List.map_append];exact kidsF_good h1 hk hl
 ·have e:gridRow (L ++ [(r1,d1,sk)])=gridRow L ++ [.slice (some ⟨r1,0,none⟩) k d1]:=by simp [gridRow,hl]
  rw [e,List.length_append]
  exact (rr2.alloc _).grown g3 (by intro e;injection e with e;omega)
 ·have e:intRow (sp ++ [j])=intRow sp ++ [.int .i64 j]:=by simp [intRow]
  rw [e,List.length_append]
  exact rr3
 ·intro x hx
  rcases List.mem_append.1 hx with hx | hx
  ·obtain ⟨x1,x2,x3,x4⟩:=h7 x hx
   have xl:=x4.lt
   refine ⟨x1,by omega,by omega,?_⟩
   exact ((((x4.alloc _).grown g1 (by intro e;injection e with e;omega)).alloc _).grown g2 (by intro e;injection e with e;omega)).alloc _ |>.grown g3 (by intro e;injection e with e;omega)
  ·simp only [List.mem_singleton] at hx
   subst hx
   refine ⟨rb1,by show r1≠r2;omega,by show r1≠r3;omega,?_⟩
   have rr:RowAt w1 3 r1 d1 sk.length (intRow sk):=by rw [hl];simpa using rr1
   exact ((rr.alloc _).grown g2 (by intro e;injection e with e;omega)).alloc _ |>.grown g3 (by intro e;injection e with e;omega)
 ·have a1:=(h8.alloc hB (.cells #[] t1)).grown g1 (by simp;omega) (fun k e=>by injection e with e;omega)
  have a2:=(a1.alloc (by omega) (.cells c1 t2)).grown g2 (by simp;omega) (fun k e=>by injection e with e;omega)
  exact (a2.alloc (by omega) (.cells c2 t3)).grown g3 (by simp;omega) (fun k e=>by injection e with e;omega)
theorem KidsOk_9 (m:Nat) (nd:Nat→Nd):KidsOk 9 m nd ↔ m≤200∧(∀ i,i < m→(nd i).kind=17)∧Apart m nd:=by simp [KidsOk]
theorem KidsOk_15 (m:Nat) (nd:Nat→Nd):KidsOk 15 m nd ↔ 1≤m∧m≤9∧(∀ i,i+1 < m→(nd i).kind=19)∧isE (nd (m - 1)).kind=true:=by simp [KidsOk]
theorem KidsOk_20 (m:Nat) (nd:Nat→Nd):KidsOk 20 m nd ↔ 1≤m∧m≤9∧(∀ i,i+1 < m→(nd i).kind=19)∧isE (nd (m - 1)).kind=true:=by simp [KidsOk]
set_option maxHeartbeats 4000000 in
theorem KO_9:KO 9:=by
 intro b N cap g o m c nd ks w hm hb hg hn hk
 have HN:=hid hn
 have HK:=hid hk
 clear hn hk
 go_enter Tryz.func49,Tryz.ntmps49
 go_wp2
 go_loopw [8,10] (fun es i wr=>∃ j e:Nat,j≤m∧e≤j∧i=.int .i64 j∧es=.int .i64 e∧(e=j ↔ AllE j (fun i=>nd (ks i)))∧Below (w.heap.size+1) (w.alloc (.cells #[.slice (some ⟨b,0,none⟩) N cap] 25)) wr) (fun _ i _=>m - (intOf i).toNat)
 case atStart=>exact ⟨0,0,Nat.zero_le _,Nat.zero_le _,rfl,rfl,⟨fun _ i h=>absurd h (Nat.not_lt_zero _),fun _=>rfl⟩,Below.refl _ _⟩
 case round =>
  obtain ⟨j,e,hj,he,rfl,rfl,hall,hbw⟩:=hrel
  have HALL:=hid hall
  have HBW:=hid hbw
  clear hall hbw
  by_cases hlt:j < m
  ·have t0:=tree_cell HBW.out
   obtain ⟨a0,a1⟩:=(HK.out.below (btree HBW.out) hg) j hlt
   obtain ⟨a2,_⟩:=(HN.out.below (btree HBW.out) hb) (ks j) a1
   have HS:=hid (AllE_step HALL.out he)
   cases hE:isE (nd (ks j)).kind
   ·have NX:=hid (HS.out.2 hE)
    clear HS
    go_wp2
    go_region_with (go_at_call 75;refine (l2E_any _ _).mono ?_;rintro e w' ⟨rfl,hw⟩;have hw2:=hw.symm;clear hw;subst hw2)
    all_goals go_wp2
    all_goals
     go_roundw
     case rel=>exact ⟨j+1,e,by omega,by omega,by go_num,rfl,NX.out,HBW.out.drew⟩
     case measure=>simp [intOf];omega
   ·have NX:=hid (HS.out.1 hE)
    clear HS
    go_wp2
    go_region_with (go_at_call 75;refine (l2E_any _ _).mono ?_;rintro e w' ⟨rfl,hw⟩;have hw2:=hw.symm;clear hw;subst hw2)
    all_goals go_wp2
    all_goals
     go_roundw
     case rel=>exact ⟨j+1,e+1,by omega,by omega,by go_num,by go_num,NX.out,HBW.out.drew⟩
     case measure=>simp [intOf];omega
  ·obtain rfl:j=m:=by omega
   go_wp2
   go_loopw [16] (fun i wr=>∃ q:Nat,q≤j∧i=.int .i64 q∧(∀ i,i < q→(nd (ks i)).kind=17)∧Below (w.heap.size+1) (w.alloc (.cells #[.slice (some ⟨b,0,none⟩) N cap] 25)) wr) (fun i _=>j - (intOf i).toNat)
   case atStart=>exact ⟨0,Nat.zero_le _,rfl,fun i h=>absurd h (Nat.not_lt_zero _),HBW.out⟩
   case round =>
    rename_i wo wr
    obtain ⟨q,hq,rfl,hin,hbw⟩:=hrel
    have HQ:=hid hin
    have HB2:=hid hbw
    clear hin hbw
    by_cases hl2:q < j
    ·have t0:=tree_cell HB2.out
     obtain ⟨a0,a1⟩:=(HK.out.below (btree HB2.out) hg) q (by omega)
     obtain ⟨a2,_⟩:=(HN.out.below (btree HB2.out) hb) (ks q) a1
     cases hE:((nd (ks q)).kind != 17)
     ·have HF:=hid (show (nd (ks q)).kind=17 by simpa using hE)
      go_wp2
      try go_region
      all_goals go_wp2
      all_goals
       go_roundw
       case rel=>exact ⟨q+1,by omega,by go_num,all_step HQ.out HF.out,by first | exact HB2.out | exact HB2.out.drew⟩
       case measure=>simp [intOf];omega
     ·have HF:=hid (show ¬ (nd (ks q)).kind=17 by simpa using hE)
      go_wp2
      try go_region
      all_goals go_wp2
      all_goals go_ret
      all_goals exact ⟨says_f (fun h=>HF.out (((KidsOk_9 _ _).1 h).2.1 q (by omega))),by first | exact btree HB2.out | exact (btree HB2.out).drew⟩
    ·obtain rfl:q=j:=by omega
     have t0:=tree_cell HB2.out
     have hz:=HB2.out.size
     rw [World.size_alloc] at hz
     by_cases h200:q≤200
     ·go_wp2_with (go_at_call 76;refine (l2Apart_any b N cap g o q c nd ks _ (by omega) (by omega) (by omega) (HN.out.below (btree HB2.out) hb) (HK.out.below (btree HB2.out) hg)).mono ?_;rintro e w1 ⟨hs,hb1⟩;rcases hs.get with ⟨rfl,hp⟩ | ⟨rfl,hp⟩)
      all_goals go_ret
      ·exact ⟨says_t ((KidsOk_9 _ _).2 ⟨h200,HQ.out,hp⟩),(btree HB2.out).trans (hb1.mono (by omega))⟩
      ·exact ⟨says_f (fun h=>hp ((KidsOk_9 _ _).1 h).2.2),(btree HB2.out).trans (hb1.mono (by omega))⟩
     ·go_wp2
      go_ret
      exact ⟨says_f (fun h=>h200 ((KidsOk_9 _ _).1 h).1),btree HB2.out⟩
def UF (k:Int):Prop:=∀ (op n kids:Int) (t:ByteArray) (r:Nat) (w:World),t.size≤maxLen→w.heap[r]?=some (.map (wordE 17) 17)→Calls Tryz.prog 61 #[ndV ⟨k,op,n,t,kids⟩,.map (some r)] w fun e w'=>Says e (PlainNd ⟨k,op,n,t,kids⟩∧1≤k∧k≤24)∧Below w.heap.size w w'
theorem below_two (w:World) (a b:Obj):Below w.heap.size w ((w.alloc a).alloc b):=((Below.refl _ _).alloc (Nat.le_refl _) a).alloc (by simp) b
theorem two_rows {w w1:World} {a0 a1 a2 a3 a4 b0 b1 b2 b3 b4:Value} {t u:TypeId} (h:Below ((w.alloc (.cells #[a0,a1,a2,a3,a4] t)).alloc (.cells #[b0,b1,b2,b3,b4] u)).heap.size ((w.alloc (.cells #[a0,a1,a2,a3,a4] t)).alloc (.cells #[b0,b1,b2,b3,b4] u)) w1) :
  (w1.cell? ⟨w.heap.size,0,none⟩=some a0∧w1.cell? ⟨w.heap.size,1,none⟩=some a1∧w1.cell? ⟨w.heap.size,2,none⟩=some a2∧w1.cell? ⟨w.heap.size,3,none⟩=some a3∧w1.cell? ⟨w.heap.size,4,none⟩=some a4) ∧
  (w1.cell? ⟨w.heap.size+1,0,none⟩=some b0∧w1.cell? ⟨w.heap.size+1,1,none⟩=some b1∧w1.cell? ⟨w.heap.size+1,2,none⟩=some b2∧w1.cell? ⟨w.heap.size+1,3,none⟩=some b3∧w1.cell? ⟨w.heap.size+1,4,none⟩=some b4)∧Below w.heap.size w w1:=by
 have f:∀ i,w1.cell? ⟨w.heap.size,i,none⟩=#[a0,a1,a2,a3,a4][i]?:=fun i=>by
  rw [h.cell (p:=⟨w.heap.size,i,none⟩) (by simp;omega)]
  rw [((Below.refl (w.heap.size+1) (w.alloc (.cells #[a0,a1,a2,a3,a4] t))).alloc (by simp) _).cell (p:=⟨w.heap.size,i,none⟩) (Nat.lt_succ_self _),cell_new_row]
 have g:∀ i,w1.cell? ⟨w.heap.size+1,i,none⟩=#[b0,b1,b2,b3,b4][i]?:=fun i=>by
  rw [h.cell (p:=⟨w.heap.size+1,i,none⟩) (by simp)]
  have:=cell_new_row (w.alloc (.cells #[a0,a1,a2,a3,a4] t)) #[b0,b1,b2,b3,b4] u i
  rwa [World.size_alloc] at this
 exact ⟨⟨f 0,f 1,f 2,f 3,f 4⟩,⟨g 0,g 1,g 2,g 3,g 4⟩,(below_two w _ _).trans (h.mono (by simp;omega))⟩
end Go.Proofs.YthnohneaanphbaaGreatDoor
namespace Go.Proofs.YthnohneaanphbaaGreatDoor
open Go.RowKit Go.Maps Go.WideMaps
set_option maxRecDepth 20000
def ptrOf:Value→Nat | .pointer (some a)=>a.block+1 | _=>0
set_option maxHeartbeats 1000000 in
theorem maker_any (r:Nat) (v:Value) (kn:Env) (s:ByteArray) (w:World) (hs:s.size≤maxLen) (hk:Scp w r v kn) :
  Calls Tryz.prog 96 #[v,.string s] w fun e w'=>e=.returned (.int .i64 (kn s))∧w'=w:=by
 have HK:=hid hk
 clear hk
 go_enter Tryz.func96,Tryz.ntmps96
 go_wp2
 go_loopw [5] (fun u wr=>∃ (r':Nat) (kn':Env),Scp w r' u kn'∧kn' s=kn s∧wr=w) (fun u _=>ptrOf u)
 case atStart=>exact ⟨r,kn,HK.out,rfl,rfl⟩
 case round =>
  obtain ⟨r',kn',hsc,he,rfl⟩:=hrel
  have HE:=hid he
  clear he
  cases hsc with
  | nil =>
   go_wp2
   go_ret
   exact ⟨by rw [← HE.out];rfl,rfl⟩
  | @cons _ b m n f next kn2 h1 h2 h3 h4 h5 =>
   have hget:=h4.get s hs
   have HE:Hid ((f s).getD (kn2 s)=kn s):=HE
   have H5:=hid h5
   have H1:=hid h1
   clear h5 h4 h1
   cases hf:f s with
   | none =>
    rw [hf] at hget HE
    have HF:=hid hf
    clear hf
    go_wp2
    go_roundw
    case rel=>exact ⟨b,kn2,H5.out,HE.out,trivial⟩
    case measure =>
     have:=H5.out
     cases this with
     | nil=>simp [ptrOf]
     | cons q1=>simp [ptrOf];omega
   | some u =>
    rw [hf] at hget HE
    have HF:=hid hf
    clear hf
    go_wp2
    go_ret
    exact ⟨by rw [← HE.out];rfl,rfl⟩
structure Top (W:World) (b m n:Nat) (f:ByteArray→Option Int) (v:Value):Prop where
 made:W.cell? ⟨b,0,none⟩=some (.map (some m))
 around:W.cell? ⟨b,1,none⟩=some v
 map:MapIs W m n f
 lt:b < W.heap.size
 ne:m≠b
theorem Top.go {S:Nat→Prop} {W W':World} {b m n:Nat} {f:ByteArray→Option Int} {v:Value} (h:Top W b m n f v) (hs:Sv S W W') (hb:¬ S b) (hm:¬ S m):Top W' b m n f v :=
 ⟨(hs.cell (p:=⟨b,0,none⟩) h.lt hb).trans h.made,(hs.cell (p:=⟨b,1,none⟩) h.lt hb).trans h.around,h.map.keep (hs.block m h.map.lt hm),Nat.lt_of_lt_of_le h.lt hs.size,h.ne⟩
def Kn (S:Nat→Prop) (w:World) (v:Value) (kn:Env):Prop:=Stb S w fun W=>Scp W w.heap.size v kn
theorem Kn.go {S:Nat→Prop} {w w':World} {v:Value} {kn:Env} (h:Kn S w v kn) (hs:Sv S w w'):Kn S w' v kn:=fun w'' h2=>(h w'' (hs.trans h2)).mono hs.size
theorem Kn.top {S:Nat→Prop} {w0 w:World} {b m n:Nat} {f:ByteArray→Option Int} {v:Value} {kn:Env} (h:Kn S w0 v kn) (hs:Sv S w0 w) (ht:Top w b m n f v) (hb:¬ S b) (hm:¬ S m) (h0:w0.heap.size≤b):Kn S w (.pointer (some ⟨b,0,none⟩)) (fun t=>(f t).getD (kn t)):=by
 intro w' h2
 have t:=ht.go h2 hb hm
 exact .cons ht.lt t.made t.around t.map ((h w' (hs.trans h2)).mono h0)
theorem top_put {S:Nat→Prop} {w0 W W':World} {b m n:Nat} {f g:ByteArray→Option Int} {v:Value} (ht:Top W b m n f v) (hg:W.grownBy W' (some m)) (hm:MapIs W' m (n+1) g) (hs:Sv S w0 W) (h0:w0.heap.size≤m):Top W' b m (n+1) g v∧Sv S w0 W' :=
 ⟨⟨hg.cell ht.made (fun e=>ht.ne (by injection e with e;exact e.symm)),hg.cell ht.around (fun e=>ht.ne (by injection e with e;exact e.symm)),hm,Nat.lt_of_lt_of_le ht.lt hg.size,ht.ne⟩,
  hs.grown hg fun k e=>by injection e with e;subst e;exact .inr h0⟩
theorem cell_push (w:World) (o o2:Obj) (i:Nat):((w.alloc o).alloc o2).cell? ⟨w.heap.size+1,i,none⟩=(match o2 with | .cells cs _ _=>cs[i]? | _=>none):=by
 have:((w.alloc o).alloc o2).heap[w.heap.size+1]?=some o2:=by
  have:=heap_alloc_new (w.alloc o) o2
  rwa [World.size_alloc] at this
 unfold World.cell?
 rw [this]
 cases o2 <;> rfl
theorem inside_any (a:Option Addr) (w:World) :
  Calls Tryz.prog 98 #[.pointer a] w fun e w'=>∃ b m,e=.returned (.pointer (some ⟨b,0,none⟩))∧Top w' b m 0 (fun _=>none) (.pointer a)∧w.heap.size≤b∧w.heap.size≤m∧Below w.heap.size w w':=by
 have hmm:=@run_makeMap Tryz.prog
 go_enter Tryz.func98,Tryz.ntmps98
 go_wp2
 go_ret
 refine ⟨w.heap.size+1,w.heap.size,rfl,⟨?_,?_,?_,by simp,by omega⟩,by omega,Nat.le_refl _,((Below.refl _ _).alloc (Nat.le_refl _) _).alloc (by simp) _⟩
 ·rw [cell_push];rfl
 ·rw [cell_push];rfl
 ·exact (MapIs.made w).keep (Below.heap_alloc _ _ _ (by simp))
theorem wf_nat (k:Nat) (h:k≤5000):(Lit.int .i64 (k:Int)).wf=true:=by
 have e:IntKind.i64.min=-9223372036854775808:=by decide
 simp [Lit.wf,e]
 omega
set_option maxHeartbeats 1000000 in
theorem with_any (S:Nat→Prop) (a:Option Addr) (kn:Env) (s:ByteArray) (k:Nat) (w:World) (hs:s.size≤maxLen) (hk5:k≤5000) (hS:∀ j,S j→j < w.heap.size) (hk:Kn S w (.pointer a) kn) :
  Calls Tryz.prog 66 #[.pointer a,.string s,.int .i64 k] w fun e w'=>∃ b,e=.returned (.pointer (some ⟨b,0,none⟩))∧Kn S w' (.pointer (some ⟨b,0,none⟩)) (kn.ext s k)∧Below w.heap.size w w':=by
 have HK:=hid hk
 have HSS:=hid hS
 clear hk hS
 go_enter Tryz.func66,Tryz.ntmps66
 go_wp2_with fail
 refine (inside_any a w).mono ?_
 rintro e w1 ⟨b,m,rfl,ht,hb,hm,hbw⟩
 have h0:=ht.made
 obtain ⟨w2,hrun,hmap,hg⟩:=ht.map.put (by unfold maxLen;omega) s hs k (wf_nat k hk5)
 have HT:=hid (top_put ht hg hmap (Sv.of_below (S:=S) hbw) hm)
 have HB:=hid (hbw.grown hg hbw.size (fun q e=>by injection e with e;omega))
 clear ht hmap hg hbw
 go_wp2
 go_ret
 refine ⟨b,rfl,?_,HB.out⟩
 have:=HK.out.top HT.out.2 HT.out.1 (fun h=>by have:=HSS.out b h;omega) (fun h=>by have:=HSS.out m h;omega) hb
 have e:(fun t=>(setF (fun _=>none) s k t).getD (kn t))=kn.ext s k:=by
  funext t
  unfold setF Env.ext
  split <;> rfl
 rw [e] at this
 exact this
end Go.Proofs.YthnohneaanphbaaGreatDoor
