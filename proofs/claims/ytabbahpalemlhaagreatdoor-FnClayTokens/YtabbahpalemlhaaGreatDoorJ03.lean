import Derived.Deep.QuietTactic
import Derived.Deep.RegionWith
import Derived.Maps.OwnSet
import Derived.Maps.Views
import Derived.StringKeys
import Derived.Test.YtabbahpalemlhaaGreatDoorJ02
namespace Go.Proofs.YtabbahpalemlhaaGreatDoor
open Go.RowKit
structure Gr (w:World) where
 W:World
 h:Below w.heap.size w W
theorem wp_region_gr {P:Program} {id:Nat} {Q:Exit→Act→World→Prop} {a:Act} {w:World} {l:List Oper} (hm:P.follows .mixedOrders=true) (hB:Region.lexB .any l.toArray=true)
  (h:wpQuiet P l.toArray (fun w'=>∃ p:Gr w,w'=p.W) (fun a'=>∀ w',(∃ p:Gr w,w'=p.W)→Q .normal a' w') l a):(Code.region id l.toArray true).wp P Q a w :=
 wp_region_quiet (C:=fun w'=>∃ p:Gr w,w'=p.W) hm hB ⟨⟨w.drew,(Below.refl _ _).drew⟩,rfl⟩ (by simpa using h)
theorem Calls.gr_of {P:Program} {f:FuncId} {args:Array Value} {w:World} {p:Gr w} {v:Value} (h:Below w.heap.size w p.W→Calls P f args p.W fun e w'=>e=.returned v∧Below p.W.heap.size p.W w') :
  Calls P f args p.W fun e w''=>e=.returned v∧∃ p:Gr w,w''=p.W :=
 (h p.h).mono fun _ w' ⟨he,hb⟩=>⟨he,⟨w',p.h.trans (hb.mono p.h.size)⟩,rfl⟩
end Go.Proofs.YtabbahpalemlhaaGreatDoor
namespace Go.Proofs.YtabbahpalemlhaaGreatDoor
open Go.RowKit
set_option maxRecDepth 20000
set_option maxHeartbeats 4000000 in
theorem l2Plain_A (k:Int) (hk:k=1∨k=2∨k=3∨k=4∨k=5∨k=6):Pl1 k:=by
 intro op n kids t w ht
 unfold ndV
 have HT:=hid ht
 clear ht
 rcases hk with rfl | rfl | rfl | rfl | rfl | rfl
 all_goals
  go_enter Tryz.func51,Tryz.ntmps51
  go_wp2_with (first
   | (go_at_call 50;refine (l1In_dec _ _ _ _).mono ?_;rintro e w' ⟨rfl,rfl⟩)
   | (go_at_call 69;refine (l2Package_any t _ HT.out).mono ?_;rintro e w' ⟨hs,rfl⟩;rcases hs.get with ⟨rfl,hp⟩ | ⟨rfl,hp⟩)
   | (go_at_call 56;refine (l1NameOk_any t _ HT.out).mono ?_;rintro e w1 ⟨hs,hb⟩;rcases hs.get with ⟨rfl,hp⟩ | ⟨rfl,hp⟩))
  all_goals go_ret
  all_goals refine ⟨⟨_,rfl,?_⟩,?_⟩
  all_goals first
   | exact (Below.refl w.heap.size w).alloc (Nat.le_refl _) _
   | exact Below.trans ((Below.refl w.heap.size w).alloc (Nat.le_refl _) _) (Below.mono hb (B':=w.heap.size) (by simp))
   | (simp [PlainNd,hasText,inR, *];done)
   | ((try simp only [bne_iff_ne,bne_eq_false_iff_eq,ne_eq] at *);(try simp [PlainNd,hasText,inR, *]);done)
   | ((try simp only [bne_eq_false_iff_eq] at *);(try simp [PlainNd,hasText,inR, *]);omega)
set_option maxHeartbeats 4000000 in
theorem l2Plain_D (k:Int) (hk:k=19∨k=20∨k=21∨k=22∨k=23∨k=24):Pl1 k:=by
 intro op n kids t w ht
 unfold ndV
 have HT:=hid ht
 clear ht
 rcases hk with rfl | rfl | rfl | rfl | rfl | rfl
 all_goals
  go_enter Tryz.func51,Tryz.ntmps51
  go_wp2_with (first
   | (go_at_call 50;refine (l1In_dec _ _ _ _).mono ?_;rintro e w' ⟨rfl,rfl⟩)
   | (go_at_call 69;refine (l2Package_any t _ HT.out).mono ?_;rintro e w' ⟨hs,rfl⟩;rcases hs.get with ⟨rfl,hp⟩ | ⟨rfl,hp⟩)
   | (go_at_call 56;refine (l1NameOk_any t _ HT.out).mono ?_;rintro e w1 ⟨hs,hb⟩;rcases hs.get with ⟨rfl,hp⟩ | ⟨rfl,hp⟩))
  all_goals go_ret
  all_goals refine ⟨⟨_,rfl,?_⟩,?_⟩
  all_goals first
   | exact (Below.refl w.heap.size w).alloc (Nat.le_refl _) _
   | exact Below.trans ((Below.refl w.heap.size w).alloc (Nat.le_refl _) _) (Below.mono hb (B':=w.heap.size) (by simp))
   | (simp [PlainNd,hasText,inR, *];done)
   | ((try simp only [bne_iff_ne,bne_eq_false_iff_eq,ne_eq] at *);(try simp [PlainNd,hasText,inR, *]);done)
def KO (kind:Int):Prop:=∀ (b N cap g o m c:Nat) (nd:Nat→Nd) (ks:Nat→Nat) (w:World),m≤1000000→b < w.heap.size→g < w.heap.size→NodesAt w b N nd→PlacesAt w g o m N ks →
  Calls Tryz.prog 52 #[.agg #[.slice (some ⟨b,0,none⟩) N cap],.int .i64 kind,.slice (some ⟨g,o,none⟩) m c] w fun e w'=>Says e (KidsOk kind m (fun i=>nd (ks i)))∧Below w.heap.size w w'
theorem AllE_step {j e:Nat} {nd:Nat→Nd} (h:e=j ↔ AllE j nd) (he:e≤j):(isE (nd j).kind=true→(e+1=j+1 ↔ AllE (j+1) nd))∧(isE (nd j).kind=false→(e=j+1 ↔ AllE (j+1) nd)):=by
 constructor
 ·intro hE
  constructor
  ·intro h1 i hi
   rcases Nat.lt_or_eq_of_le (Nat.lt_succ_iff.1 hi) with h2 | h2
   ·exact h.1 (by omega) i h2
   ·subst h2;exact hE
  ·intro h1
   rw [h.2 (fun i hi=>h1 i (by omega))]
 ·intro hE
  constructor
  ·intro h1;omega
  ·intro h1;have:=h1 j (by omega);rw [hE] at this;cases this
set_option maxHeartbeats 4000000 in
theorem KO_A (kind:Int) (hkind:kind=1∨kind=6∨kind=16):KO kind:=by
 intro b N cap g o m c nd ks w hm hb hg hn hk
 have HN:=hid hn
 have HK:=hid hk
 clear hn hk
 go_enter Tryz.func52,Tryz.ntmps52
 go_wp2
 go_loopw [8,10] (fun es i wr=>∃ j e:Nat,j≤m∧e≤j∧i=.int .i64 j∧es=.int .i64 e∧(e=j ↔ AllE j (fun i=>nd (ks i)))∧Below (w.heap.size+1) (w.alloc (.cells #[.slice (some ⟨b,0,none⟩) N cap] 50)) wr) (fun _ i _=>m - (intOf i).toNat)
 case atStart=>exact ⟨0,0,Nat.zero_le _,Nat.zero_le _,rfl,rfl,⟨fun _ i h=>absurd h (Nat.not_lt_zero _),fun _=>rfl⟩,Below.refl _ _⟩
 case round =>
  obtain ⟨j,e,hj,he,rfl,rfl,hall,hbw⟩:=hrel
  have HALL:=hid hall
  have HBW:=hid hbw
  clear hall hbw
  by_cases hlt:j < m
  ·have t0:=tree_cell HBW.out
   obtain ⟨a0,a1⟩:=(HK.out.below (btree HBW.out) hg) j hlt
   obtain ⟨a2,_⟩:=(HN.out.below (btree HBW.out) hb) (ks j) a1
   have HS:=hid (AllE_step HALL.out he)
   cases hE:isE (nd (ks j)).kind
   ·have NX:=hid (HS.out.2 hE)
    clear HS
    go_wp2
    go_region_with (go_at_call 70;refine (l2E_any _ _).mono ?_;rintro e w' ⟨rfl,hw⟩;have hw2:=hw.symm;clear hw;subst hw2)
    all_goals go_wp2
    all_goals
     go_roundw
     case rel=>exact ⟨j+1,e,by omega,by omega,by go_num,rfl,NX.out,HBW.out.drew⟩
     case measure=>simp [intOf];omega
   ·have NX:=hid (HS.out.1 hE)
    clear HS
    go_wp2
    go_region_with (go_at_call 70;refine (l2E_any _ _).mono ?_;rintro e w' ⟨rfl,hw⟩;have hw2:=hw.symm;clear hw;subst hw2)
    all_goals go_wp2
    all_goals
     go_roundw
     case rel=>exact ⟨j+1,e+1,by omega,by omega,by go_num,by go_num,NX.out,HBW.out.drew⟩
     case measure=>simp [intOf];omega
  ·obtain rfl:j=m:=by omega
   rcases hkind with rfl | rfl | rfl
   all_goals go_wp2
   all_goals go_ret
   all_goals refine ⟨⟨_,rfl,?_⟩,btree HBW.out⟩
   all_goals simp [KidsOk,← HALL.out, *]
   all_goals omega
theorem KidsOk_24 (m:Nat) (nd:Nat→Nd):KidsOk 24 m nd ↔ m≤200∧∀ i,i < m→20≤(nd i).kind∧(nd i).kind≤23:=by simp [KidsOk]
theorem KidsOk_23 (m:Nat) (nd:Nat→Nd):KidsOk 23 m nd ↔ 1≤m∧m≤200∧∀ i,i < m→(nd i).kind=5:=by simp [KidsOk]
theorem all_step {P:Nat→Prop} {q:Nat} (h:∀ i,i < q→P i) (hq:P q):∀ i,i < q+1→P i:=fun i hi=>by
 rcases Nat.lt_or_eq_of_le (Nat.lt_succ_iff.1 hi) with h' | h'
 ·exact h i h'
 ·subst h';exact hq
set_option maxHeartbeats 4000000 in
theorem KO_24:KO 24:=by
 intro b N cap g o m c nd ks w hm hb hg hn hk
 have HN:=hid hn
 have HK:=hid hk
 clear hn hk
 go_enter Tryz.func52,Tryz.ntmps52
 go_wp2
 go_loopw [8,10] (fun es i wr=>∃ j e:Nat,j≤m∧e≤j∧i=.int .i64 j∧es=.int .i64 e∧(e=j ↔ AllE j (fun i=>nd (ks i)))∧Below (w.heap.size+1) (w.alloc (.cells #[.slice (some ⟨b,0,none⟩) N cap] 50)) wr) (fun _ i _=>m - (intOf i).toNat)
 case atStart=>exact ⟨0,0,Nat.zero_le _,Nat.zero_le _,rfl,rfl,⟨fun _ i h=>absurd h (Nat.not_lt_zero _),fun _=>rfl⟩,Below.refl _ _⟩
 case round =>
  obtain ⟨j,e,hj,he,rfl,rfl,hall,hbw⟩:=hrel
  have HALL:=hid hall
  have HBW:=hid hbw
  clear hall hbw
  by_cases hlt:j < m
  ·have t0:=tree_cell HBW.out
   obtain ⟨a0,a1⟩:=(HK.out.below (btree HBW.out) hg) j hlt
   obtain ⟨a2,_⟩:=(HN.out.below (btree HBW.out) hb) (ks j) a1
   have HS:=hid (AllE_step HALL.out he)
   cases hE:isE (nd (ks j)).kind
   ·have NX:=hid (HS.out.2 hE)
    clear HS
    go_wp2
    go_region_with (go_at_call 70;refine (l2E_any _ _).mono ?_;rintro e w' ⟨rfl,hw⟩;have hw2:=hw.symm;clear hw;subst hw2)
    all_goals go_wp2
    all_goals
     go_roundw
     case rel=>exact ⟨j+1,e,by omega,by omega,by go_num,rfl,NX.out,HBW.out.drew⟩
     case measure=>simp [intOf];omega
   ·have NX:=hid (HS.out.1 hE)
    clear HS
    go_wp2
    go_region_with (go_at_call 70;refine (l2E_any _ _).mono ?_;rintro e w' ⟨rfl,hw⟩;have hw2:=hw.symm;clear hw;subst hw2)
    all_goals go_wp2
    all_goals
     go_roundw
     case rel=>exact ⟨j+1,e+1,by omega,by omega,by go_num,by go_num,NX.out,HBW.out.drew⟩
     case measure=>simp [intOf];omega
  ·obtain rfl:j=m:=by omega
   go_wp2
   go_loopw [15] (fun i wr=>∃ q:Nat,q≤j∧i=.int .i64 q∧(∀ i,i < q→20≤(nd (ks i)).kind∧(nd (ks i)).kind≤23)∧Below (w.heap.size+1) (w.alloc (.cells #[.slice (some ⟨b,0,none⟩) N cap] 50)) wr) (fun i _=>j - (intOf i).toNat)
   case atStart=>exact ⟨0,Nat.zero_le _,rfl,fun i h=>absurd h (Nat.not_lt_zero _),HBW.out⟩
   case round =>
    rename_i wo wr
    obtain ⟨q,hq,rfl,hin,hbw⟩:=hrel
    have HQ:=hid hin
    have HB2:=hid hbw
    clear hin hbw
    by_cases hl2:q < j
    ·have t0:=tree_cell HB2.out
     obtain ⟨a0,a1⟩:=(HK.out.below (btree HB2.out) hg) q hl2
     obtain ⟨a2,_⟩:=(HN.out.below (btree HB2.out) hb) (ks q) a1
     cases hE:inR (nd (ks q)).kind 20 23
     ·have HF:Hid (¬ (20≤(nd (ks q)).kind∧(nd (ks q)).kind≤23)):=fun h=>by unfold inR at hE;simp [h] at hE
      go_wp2
      go_region_with (go_at_call 50;refine (l1In_any _ _ _ _).mono ?_;rintro e w' ⟨rfl,hw⟩;have hw2:=hw.symm;clear hw;subst hw2)
      all_goals go_wp2
      all_goals go_ret
      all_goals exact ⟨says_f (fun h=>HF.out (((KidsOk_24 _ _).1 h).2 q hl2)),(btree HB2.out).drew⟩
     ·have HF:=hid (show 20≤(nd (ks q)).kind∧(nd (ks q)).kind≤23 by unfold inR at hE;simpa using hE)
      go_wp2
      go_region_with (go_at_call 50;refine (l1In_any _ _ _ _).mono ?_;rintro e w' ⟨rfl,hw⟩;have hw2:=hw.symm;clear hw;subst hw2)
      all_goals go_wp2
      all_goals
       go_roundw
       case rel=>exact ⟨q+1,by omega,by go_num,all_step HQ.out HF.out,HB2.out.drew⟩
       case measure=>simp [intOf];omega
    ·obtain rfl:q=j:=by omega
     go_wp2
     go_ret
     refine ⟨⟨_,rfl,?_⟩,btree HB2.out⟩
     rw [KidsOk_24]
     have:=HQ.out
     simp
     constructor
     ·intro h;exact ⟨by omega,this⟩
     ·intro h;have:=h.1;omega
set_option maxHeartbeats 4000000 in
theorem KO_23:KO 23:=by
 intro b N cap g o m c nd ks w hm hb hg hn hk
 have HN:=hid hn
 have HK:=hid hk
 clear hn hk
 go_enter Tryz.func52,Tryz.ntmps52
 go_wp2
 go_loopw [8,10] (fun es i wr=>∃ j e:Nat,j≤m∧e≤j∧i=.int .i64 j∧es=.int .i64 e∧(e=j ↔ AllE j (fun i=>nd (ks i)))∧Below (w.heap.size+1) (w.alloc (.cells #[.slice (some ⟨b,0,none⟩) N cap] 50)) wr) (fun _ i _=>m - (intOf i).toNat)
 case atStart=>exact ⟨0,0,Nat.zero_le _,Nat.zero_le _,rfl,rfl,⟨fun _ i h=>absurd h (Nat.not_lt_zero _),fun _=>rfl⟩,Below.refl _ _⟩
 case round =>
  obtain ⟨j,e,hj,he,rfl,rfl,hall,hbw⟩:=hrel
  have HALL:=hid hall
  have HBW:=hid hbw
  clear hall hbw
  by_cases hlt:j < m
  ·have t0:=tree_cell HBW.out
   obtain ⟨a0,a1⟩:=(HK.out.below (btree HBW.out) hg) j hlt
   obtain ⟨a2,_⟩:=(HN.out.below (btree HBW.out) hb) (ks j) a1
   have HS:=hid (AllE_step HALL.out he)
   cases hE:isE (nd (ks j)).kind
   ·have NX:=hid (HS.out.2 hE)
    clear HS
    go_wp2
    go_region_with (go_at_call 70;refine (l2E_any _ _).mono ?_;rintro e w' ⟨rfl,hw⟩;have hw2:=hw.symm;clear hw;subst hw2)
    all_goals go_wp2
    all_goals
     go_roundw
     case rel=>exact ⟨j+1,e,by omega,by omega,by go_num,rfl,NX.out,HBW.out.drew⟩
     case measure=>simp [intOf];omega
   ·have NX:=hid (HS.out.1 hE)
    clear HS
    go_wp2
    go_region_with (go_at_call 70;refine (l2E_any _ _).mono ?_;rintro e w' ⟨rfl,hw⟩;have hw2:=hw.symm;clear hw;subst hw2)
    all_goals go_wp2
    all_goals
     go_roundw
     case rel=>exact ⟨j+1,e+1,by omega,by omega,by go_num,by go_num,NX.out,HBW.out.drew⟩
     case measure=>simp [intOf];omega
  ·obtain rfl:j=m:=by omega
   go_wp2
   go_loopw [14] (fun i wr=>∃ q:Nat,q≤j∧i=.int .i64 q∧(∀ i,i < q→(nd (ks i)).kind=5)∧Below (w.heap.size+1) (w.alloc (.cells #[.slice (some ⟨b,0,none⟩) N cap] 50)) wr) (fun i _=>j - (intOf i).toNat)
   case atStart=>exact ⟨0,Nat.zero_le _,rfl,fun i h=>absurd h (Nat.not_lt_zero _),HBW.out⟩
   case round =>
    rename_i wo wr
    obtain ⟨q,hq,rfl,hin,hbw⟩:=hrel
    have HQ:=hid hin
    have HB2:=hid hbw
    clear hin hbw
    by_cases hl2:q < j
    ·have t0:=tree_cell HB2.out
     obtain ⟨a0,a1⟩:=(HK.out.below (btree HB2.out) hg) q hl2
     obtain ⟨a2,_⟩:=(HN.out.below (btree HB2.out) hb) (ks q) a1
     cases hE:((nd (ks q)).kind != 5)
     ·have HF:=hid (show (nd (ks q)).kind=5 by simpa using hE)
      go_wp2
      try go_region
      all_goals go_wp2
      all_goals
       go_roundw
       case rel=>exact ⟨q+1,by omega,by go_num,all_step HQ.out HF.out,by first | exact HB2.out | exact HB2.out.drew⟩
       case measure=>simp [intOf];omega
     ·have HF:=hid (show ¬ (nd (ks q)).kind=5 by simpa using hE)
      go_wp2
      try go_region
      all_goals go_wp2
      all_goals go_ret
      all_goals exact ⟨says_f (fun h=>HF.out (((KidsOk_23 _ _).1 h).2.2 q hl2)),by first | exact btree HB2.out | exact (btree HB2.out).drew⟩
    ·obtain rfl:q=j:=by omega
     go_wp2_with (go_at_call 50;refine (l1In_any _ _ _ _).mono ?_;rintro e w' ⟨rfl,hw⟩;have hw2:=hw.symm;clear hw;subst hw2)
     go_ret
     refine ⟨⟨_,rfl,?_⟩,btree HB2.out⟩
     rw [KidsOk_23]
     have:=HQ.out
     simp [inR]
     constructor
     ·intro h;exact ⟨by omega,by omega,this⟩
     ·intro h;have:=h.1;have:=h.2.1;omega
def KInv (nd:Nat→Nd) (B:Nat) (W0 W:World) (j:Nat) (L:List (Nat × Nat × List Nat)) (s:List Nat) (go co gs cs:Nat):Prop :=
 kidsF nd j=some (L.map (·.2.2),s)∧RowAt W 82 go co L.length (gridRow L)∧RowAt W 3 gs cs s.length (intRow s)∧go≠gs∧B≤go∧B≤gs ∧
 (∀ x ∈ L,B≤x.1∧x.1≠go∧x.1≠gs∧RowAt W 3 x.1 x.2.1 x.2.2.length (intRow x.2.2))∧Below B W0 W
theorem KInv_step {nd:Nat→Nd} {B:Nat} {W0 W w1 w2 w3:World} {j k:Nat} {L:List (Nat × Nat × List Nat)} {sp sk:List Nat} {go co gs cs:Nat} (h:KInv nd B W0 W j L (sp ++ sk) go co gs cs) (hB:B≤W.heap.size)
  (hk:(nd j).kids=k) (hl:sk.length=k)
  {v1 v2 v3:Value} {c1:Array Value} {c2:Array Value} {t1 t2 t3:TypeId}
  (o1:w1.ownsRow B 3 1 v1 k (intRow sk)) (g1:(W.alloc (.cells #[] t1)).grownBy w1 (some W.heap.size)) (n1:¬ v1=.slice none 0 0) (b1:v1.ownBlock=some W.heap.size∨v1.ownBlock=some (W.alloc (.cells #[] t1)).heap.size)
  (o2:w2.ownsRow B 82 1 v2 (L.length+1) (gridRow L ++ [v1])) (g2:(w1.alloc (.cells c1 t2)).grownBy w2 (some go)) (n2:¬ v2=.slice none 0 0) (b2:v2.ownBlock=some go∨v2.ownBlock=some (w1.alloc (.cells c1 t2)).heap.size)
  (o3:w3.ownsRow B 3 1 v3 (sp.length+1) (intRow sp ++ [.int .i64 j])) (g3:(w2.alloc (.cells c2 t3)).grownBy w3 (some gs)) (n3:¬ v3=.slice none 0 0) (b3:v3.ownBlock=some gs∨v3.ownBlock=some (w2.alloc (.cells c2 t3)).heap.size) :
  ∃ L' s' go' co' gs' cs',v2=.slice (some ⟨go',0,none⟩) L'.length co'∧v3=.slice (some ⟨gs',0,none⟩) s'.length cs'∧KInv nd B W0 w3 (j+1) L' s' go' co' gs' cs':=by
 obtain ⟨h1,h2,h3,h4,h5,h6,h7,h8⟩:=h
 obtain ⟨r1,d1,rfl,rb1,rr1⟩:=RowAt.of_own o1 n1
 obtain ⟨r2,d2,rfl,rb2,rr2⟩:=RowAt.of_own o2 n2
 obtain ⟨r3,d3,rfl,rb3,rr3⟩:=RowAt.of_own o3 n3
 have z2:=h2.lt
 have z3:=h3.lt
 have s1:=g1.size
 have s2:=g2.size
 have s3:=g3.size
 simp only [World.size_alloc] at s1 s2 s3 b1 b2 b3
 simp only [Value.ownBlock,Option.some.injEq] at b1 b2 b3
 have hr1:W.heap.size≤r1:=by omega
 have hr1':r1 < w1.heap.size:=rr1.lt
 have hr2:r2=go∨w1.heap.size < r2:=by omega
 have hr2':r2 < w2.heap.size:=rr2.lt
 have hr3:r3=gs∨w2.heap.size < r3:=by omega
 refine ⟨L ++ [(r1,d1,sk)],sp ++ [j],r2,d2,r3,d3,by simp,by simp,?_,?_,?_,by omega,rb2,rb3,?_,?_⟩
 ·rw [List.map_append];exact kidsF_good h1 hk hl
 ·have e:gridRow (L ++ [(r1,d1,sk)])=gridRow L ++ [.slice (some ⟨r1,0,none⟩) k d1]:=by simp [gridRow,hl]
  rw [e,List.length_append]
  exact (rr2.alloc _).grown g3 (by intro e;injection e with e;omega)
 ·have e:intRow (sp ++ [j])=intRow sp ++ [.int .i64 j]:=by simp [intRow]
  rw [e,List.length_append]
  exact rr3
 ·intro x hx
  rcases List.mem_append.1 hx with hx | hx
  ·obtain ⟨x1,x2,x3,x4⟩:=h7 x hx
   have xl:=x4.lt
   refine ⟨x1,by omega,by omega,?_⟩
   exact ((((x4.alloc _).grown g1 (by intro e;injection e with e;omega)).alloc _).grown g2 (by intro e;injection e with e;omega)).alloc _ |>.grown g3 (by intro e;injection e with e;omega)
  ·simp only [List.mem_singleton] at hx
   subst hx
   refine ⟨rb1,by show r1≠r2;omega,by show r1≠r3;omega,?_⟩
   have rr:RowAt w1 3 r1 d1 sk.length (intRow sk):=by rw [hl];simpa using rr1
   exact ((rr.alloc _).grown g2 (by intro e;injection e with e;omega)).alloc _ |>.grown g3 (by intro e;injection e with e;omega)
 ·have a1:=(h8.alloc hB (.cells #[] t1)).grown g1 (by simp;omega) (fun k e=>by injection e with e;omega)
  have a2:=(a1.alloc (by omega) (.cells c1 t2)).grown g2 (by simp;omega) (fun k e=>by injection e with e;omega)
  exact (a2.alloc (by omega) (.cells c2 t3)).grown g3 (by simp;omega) (fun k e=>by injection e with e;omega)
end Go.Proofs.YtabbahpalemlhaaGreatDoor
namespace Go.Proofs.YtabbahpalemlhaaGreatDoor
abbrev EnvN:=ByteArray→Int
def EnvN.ext (kn:EnvN) (s:ByteArray) (v:Int):EnvN:=fun t=>if t=s then v else kn t
inductive Ev where
 | bind (k:Nat) (v:Int)
 | flt (k c:Nat)
def useE (nd:Nat→Nd) (kn:EnvN) (k:Nat):List Ev:=.bind k (kn (nd k).text) :: (if kn (nd k).text=-1 then [.flt k 9] else [])
def inL (t:ByteArray) (ns:List ByteArray):Bool:=ns.any fun s=>decide (s=t)
def prm (nd:Nat→Nd) (o:List (List Nat)) (W:EnvN→Nat→List Ev):List Nat→EnvN→List ByteArray→Bool→List Ev × EnvN
 | [],kn,_,_=>([],kn)
 | p :: ps,kn,ns,d =>
  ((o.getD p []).flatMap (W kn) ++ ((if inL (nd p).text ns=true then [.flt p 8] else []) ++ ((if d=true∧o.getD p []=[] then [.flt p 10] else []) ++
   (prm nd o W ps (kn.ext (nd p).text p) ((nd p).text :: ns) (d || !(o.getD p []).isEmpty)).1)),
   (prm nd o W ps (kn.ext (nd p).text p) ((nd p).text :: ns) (d || !(o.getD p []).isEmpty)).2)
def fnE (nd:Nat→Nd) (o:List (List Nat)) (W:EnvN→Nat→List Ev) (ks:List Nat) (kn:EnvN):List Ev :=
 (prm nd o W ks.dropLast kn [] false).1 ++ W (prm nd o W ks.dropLast kn [] false).2 (ks.getLastD 0)
def nodeE (nd:Nat→Nd) (o:List (List Nat)) (W:EnvN→Nat→List Ev) (k:Nat) (kn:EnvN):List Ev :=
 if (nd k).kind=5 then useE nd kn k
 else if (nd k).kind=14∨(nd k).kind=16 then W kn ((o.getD k []).getD 0 0) ++ ((o.getD k []).drop 1).flatMap (W (kn.ext (nd k).text k))
 else if (nd k).kind=15∨(nd k).kind=20 then fnE nd o W (o.getD k []) kn
 else if (nd k).kind=23 then []
 else (o.getD k []).flatMap (W kn)
def wk (nd:Nat→Nd) (o:List (List Nat)) (k:Nat) (kn:EnvN):List Ev :=
 nodeE nd o (fun kn j=>if _h:j < k then wk nd o j kn else []) k kn
termination_by k
def Down (o:List (List Nat)):Prop:=∀ k,∀ j ∈ o.getD k [],j < k
def Same (a b:EnvN):Prop:=∀ t,a t=-1 ↔ b t=-1
theorem Same.ext {a b:EnvN} (h:Same a b) (s:ByteArray) (k:Nat):Same (a.ext s k) (b.ext s k):=by
 intro t
 unfold EnvN.ext
 split
 ·omega
 ·exact h t
def low (o:List (List Nat)) (k:Nat):Nat :=
 match o.getD k [] with
 | []=>k
 | x :: _=>if _h:x < k then low o x else k
termination_by k
def Tile (o:List (List Nat)):Nat→List Nat→Nat→Prop
 | a,[],b=>a=b
 | a,x :: r,b=>low o x=a∧a≤x∧Tile o (x+1) r b
theorem Tile.le {o:List (List Nat)} {s:List Nat} {a b:Nat} (h:Tile o a s b):a≤b:=by
 induction s generalizing a with
 | nil=>exact Nat.le_of_eq h
 | cons x r ih=>have:=ih h.2.2;have:=h.2.1;omega
theorem Tile.split {o:List (List Nat)} {s t:List Nat} {a b:Nat} (h:Tile o a (s ++ t) b):∃ m,Tile o a s m∧Tile o m t b:=by
 induction s generalizing a with
 | nil=>exact ⟨a,rfl,h⟩
 | cons x r ih =>
  obtain ⟨m,h1,h2⟩:=ih h.2.2
  exact ⟨m,⟨h.1,h.2.1,h1⟩,h2⟩
theorem Tile.snoc {o:List (List Nat)} {s:List Nat} {a m x:Nat} (h:Tile o a s m) (h1:low o x=m) (h2:m≤x):Tile o a (s ++ [x]) (x+1):=by
 induction s generalizing a with
 | nil =>
  have e:a=m:=h
  exact ⟨by rw [h1,e],by omega,rfl⟩
 | cons y r ih=>exact ⟨h.1,h.2.1,ih h.2.2⟩
theorem Tile.lt {o:List (List Nat)} {s:List Nat} {a b:Nat} (h:Tile o a s b):∀ x ∈ s,a≤x∧x < b:=by
 induction s generalizing a with
 | nil=>intro x hx;cases hx
 | cons y r ih =>
  intro x hx
  have:=h.2.1
  have:=h.2.2.le
  rcases List.mem_cons.1 hx with e | hx
  ·subst e;omega
  ·have:=ih h.2.2 x hx;omega
theorem kidsF_at {nd:Nat→Nd} {N:Nat} {O:List (List Nat)} {S:List Nat} (h:kidsF nd N=some (O,S)) (j:Nat) (hj:j < N):∃ sp sk,kidsF nd j=some (O.take j,sp ++ sk)∧kidsF nd (j+1)=some (O.take (j+1),sp ++ [j])∧O.getD j []=sk:=by
 obtain ⟨s',h1⟩:=kidsF_pre h (j+1) hj
 obtain ⟨o',sp,sk,h2,h3,rfl,_⟩:=kidsF_step h1
 have l2:=(kidsF_len nd _ _ _ h2).1
 have lO:=(kidsF_len nd _ _ _ h).1
 have e:O.take j=o':=by
  have:(O.take (j+1)).take j=(o' ++ [sk]).take j:=by rw [h3]
  rw [List.take_take,Nat.min_eq_left (by omega)] at this
  rw [this,← l2];simp
 refine ⟨sp,sk,by rw [e];exact h2,h1,?_⟩
 have:(O.take (j+1))[j]?=(o' ++ [sk])[j]?:=by rw [h3]
 rw [List.getElem?_take_of_lt (by omega),List.getElem?_append_right (by omega),l2] at this
 rw [List.getD_eq_getElem?_getD,this];simp
theorem tile_all {nd:Nat→Nd} {N:Nat} {O:List (List Nat)} {S:List Nat} (h:kidsF nd N=some (O,S)) (j:Nat) (hj:j≤N):∃ s,kidsF nd j=some (O.take j,s)∧Tile O 0 s j∧∀ k,k < j→Tile O (low O k) (O.getD k []) k:=by
 induction j with
 | zero=>exact ⟨[],rfl,rfl,fun k hk=>absurd hk (Nat.not_lt_zero _)⟩
 | succ j ih =>
  obtain ⟨s,h1,h2,h3⟩:=ih (by omega)
  obtain ⟨sp,sk,h4,h5,h6⟩:=kidsF_at h j (by omega)
  rw [h1] at h4
  injection h4 with h4
  injection h4 with _ h4
  subst h4
  obtain ⟨m,t1,t2⟩:=h2.split
  have hl:low O j=m:=by
   rw [low,h6]
   cases sk with
   | nil=>exact t2.symm
   | cons x r =>
    have:=t2.lt x (by simp)
    simp only [this.2,dite_true]
    exact t2.1
  refine ⟨_,h5,t1.snoc hl t2.le,fun k hk=>?_⟩
  by_cases e:k=j
  ·subst e;rw [h6,hl];exact t2
  ·exact h3 k (by omega)
theorem down_of {nd:Nat→Nd} {N:Nat} {O:List (List Nat)} {S:List Nat} (h:kidsF nd N=some (O,S)):Down O:=by
 intro k j hj
 have hl:=(kidsF_len nd _ _ _ h).1
 by_cases hk:k < N
 ·obtain ⟨_,_,_,h3⟩:=tile_all h N (Nat.le_refl _)
  exact ((h3 k hk).lt j hj).2
 ·rw [List.getD_eq_getElem?_getD,List.getElem?_eq_none (by omega)] at hj
  cases hj
def FLt (x y:Nat × Nat):Prop:=x.1 < y.1∨x.1=y.1∧x.2 < y.2
def Srt (a b:Nat) (l:List (Nat × Nat)):Prop:=l.Pairwise FLt∧∀ x ∈ l,a≤x.1∧x.1 < b∧8≤x.2
theorem Srt.nil (a b:Nat):Srt a b []:=⟨List.Pairwise.nil,fun x h=>by cases h⟩
theorem Srt.append {a b c:Nat} {l r:List (Nat × Nat)} (h1:Srt a b l) (h2:Srt b c r) (hab:a≤b) (hbc:b≤c):Srt a c (l ++ r):=by
 refine ⟨List.pairwise_append.2 ⟨h1.1,h2.1,fun x hx y hy=>.inl ?_⟩,fun x hx=>?_⟩
 ·have:=h1.2 x hx;have:=h2.2 y hy;omega
 ·rcases List.mem_append.1 hx with hx | hx
  ·have:=h1.2 x hx;omega
  ·have:=h2.2 x hx;omega
theorem Srt.mono {a b c d:Nat} {l:List (Nat × Nat)} (h:Srt a b l) (h1:c≤a) (h2:b≤d):Srt c d l:=⟨h.1,fun x hx=>by have:=h.2 x hx;omega⟩
theorem Srt.one (k c:Nat) (hc:8≤c):Srt k (k+1) [(k,c)]:=⟨by simp,fun x hx=>by simp at hx;subst hx;exact ⟨Nat.le_refl _,Nat.lt_succ_self _,hc⟩⟩
end Go.Proofs.YtabbahpalemlhaaGreatDoor
namespace Go.Proofs.YtabbahpalemlhaaGreatDoor
open Go.RowKit
set_option maxRecDepth 20000
def KidsEnd (nd:Nat→Nd) (N:Nat) (w w':World) (e:Ending):Prop :=
 Below w.heap.size w w'∧((∃ v,e=.returned (.tuple #[v,.bool false])∧∀ o x,¬ kidsF nd N=some (o,[x])) ∨
  ∃ L x go co,e=.returned (.tuple #[.slice (some ⟨go,0,none⟩) L.length co,.bool true])∧kidsF nd N=some (L.map (·.2.2),[x])∧RowAt w' 82 go co L.length (gridRow L)∧w.heap.size≤go ∧
   ∀ x ∈ L,w.heap.size≤x.1∧RowAt w' 3 x.1 x.2.1 x.2.2.length (intRow x.2.2))
theorem kids_len {nd:Nat→Nd} {B:Nat} {W0 W:World} {j:Nat} {L:List (Nat × Nat × List Nat)} {s:List Nat} {go co gs cs:Nat} (h:KInv nd B W0 W j L s go co gs cs):L.length=j∧s.length≤j:=by
 have:=kidsF_len nd j _ _ h.1
 rw [List.length_map] at this
 exact ⟨this.1,this.2.1⟩
theorem tail_cells {W:World} {g cap n p:Nat} {sp sk:List Nat} (h:RowAt W 3 g cap n (intRow (sp ++ sk))) (hp:sp.length=p):∀ j u,(intRow sk)[j]?=some u→W.cell? ((⟨g,p,none⟩:Addr).add j)=some u:=by
 intro j u hj
 have hjl:j < sk.length:=by
  have:=(List.getElem?_eq_some_iff.1 hj).1
  rwa [intRow_length] at this
 have hn:n=sp.length+sk.length:=by rw [← h.1,intRow_length,List.length_append]
 have e:((⟨g,p,none⟩:Addr).add j)=⟨g,p+j,none⟩:=by unfold Addr.add;simp
 rw [e,h.cell (p+j) (by omega),intRow_append,List.getElem?_append_right (by rw [intRow_length];omega),intRow_length,hp,Nat.add_sub_cancel_left]
 exact hj
theorem some_not_nil {a:Addr} {n c:Nat} {P:Prop} {v:Value} (h:v=.slice none 0 0 ↔ Value.slice (some a) n c=.slice none 0 0∧P):¬ v=.slice none 0 0:=fun e=>by have:=(h.1 e).1;cases this
set_option maxHeartbeats 2000000 in
theorem l2Kids_any (b N cap:Nat) (nd:Nat→Nd) (w:World) (hN:N≤5000) (hb:b < w.heap.size) (hn:NodesAt w b N nd) :
  Calls Tryz.prog 35 #[.agg #[.slice (some ⟨b,0,none⟩) N cap]] w fun e w'=>KidsEnd nd N w w' e:=by
 have HN:=hid hn
 clear hn
 obtain ⟨i0,hi,hz0,hz1,hz2⟩:=info_parts info_int
 have HHI:=hid (And.intro hi (And.intro hz0 (And.intro hz1 hz2)))
 clear hi hz0 hz1 hz2
 obtain ⟨i1,hi,hz0,hz1,hz2⟩:=info_parts info_ints
 have HHS:=hid (And.intro hi (And.intro hz0 (And.intro hz1 hz2)))
 clear hi hz0 hz1 hz2
 go_enter Tryz.func35,Tryz.ntmps35
 go_wp2
 go_loopw [4,5,6] (fun vo vs i wr=>∃ (j:Nat) (L:List (Nat × Nat × List Nat)) (s:List Nat) (go co gs cs:Nat),j≤N∧i=.int .i64 j∧vo=.slice (some ⟨go,0,none⟩) L.length co∧vs=.slice (some ⟨gs,0,none⟩) s.length cs ∧
   KInv nd (w.heap.size+1) (w.alloc (.cells #[.slice (some ⟨b,0,none⟩) N cap] 50)) wr j L s go co gs cs) (fun _ _ i _=>N - (intOf i).toNat)
 case atStart =>
  refine ⟨0,[],[],w.heap.size+1,0,w.heap.size+2,0,Nat.zero_le _,rfl,rfl,rfl,rfl,?_,?_,by omega,by omega,by omega,by simp,?_⟩
  ·refine ⟨rfl,Nat.le_refl _,by unfold maxLen;omega,#[],?_,rfl,rfl⟩
   have e:∀ (a b:Obj),((w.alloc a).alloc b).heap[w.heap.size+1]?=some b:=fun a b=>by
    have:=heap_alloc_new (w.alloc a) b
    rwa [World.size_alloc] at this
   rw [Below.heap_alloc _ _ _ (by simp)]
   exact e _ _
  ·refine ⟨rfl,Nat.le_refl _,by unfold maxLen;omega,#[],?_,rfl,rfl⟩
   have e:∀ (a b c:Obj),(((w.alloc a).alloc b).alloc c).heap[w.heap.size+2]?=some c:=fun a b c=>by
    have:=heap_alloc_new ((w.alloc a).alloc b) c
    rwa [World.size_alloc,World.size_alloc] at this
   exact e _ _ _
  ·exact ((Below.refl _ _).alloc (by simp) _).alloc (by simp) _
 case round =>
  obtain ⟨j,L,s,go,co,gs,cs,hj,rfl,rfl,rfl,hinv⟩:=hrel
  have HI:=hid hinv
  have hlen:=kids_len hinv
  clear hinv
  obtain ⟨hLl,hsl⟩:=hlen
  have hLb:L.length≤5000:=by omega
  clear hLl
  have t0:=tree_cell HI.out.2.2.2.2.2.2.2
  by_cases hlt:j < N
  ·obtain ⟨_,_,_,_,a4⟩:=(HN.out.below (btree HI.out.2.2.2.2.2.2.2) hb) j hlt
   by_cases hok:0≤(nd j).kids∧(nd j).kids≤s.length
   ·obtain ⟨k,hk⟩:=Int.eq_ofNat_of_zero_le hok.1
    have hks:k≤s.length:=by omega
    clear hok
    obtain ⟨sp,sk,hs,hsk⟩:∃ sp sk,s=sp ++ sk∧sk.length=k:=⟨s.take (s.length - k),s.drop (s.length - k),(List.take_append_drop _ _).symm,by simp;omega⟩
    subst hs
    obtain ⟨p,hp⟩:∃ p,sp.length=p:=⟨_,rfl⟩
    have hpk:(sp ++ sk).length=p+k:=by rw [List.length_append,hp,hsk]
    have HK:=hid hk
    rw [hk] at a4
    rw [hpk] at hks hsl ⊢
    have hBz:w.heap.size+1≤wr.heap.size:=by have:=HI.out.2.2.2.2.2.2.2.size;simpa using this
    have hcs:p+k≤cs:=by have:=HI.out.2.2.1.2.1;omega
    have hgo:=HI.out.2.1.lt
    have hgs:=HI.out.2.2.1.lt
    have hgne:=HI.out.2.2.2.1
    have OWN1:=hid (World.ownsRow_made (e:=3) (size:=1) wr #[] 0 hBz (by unfold maxLen;omega) rfl)
    have R2:=hid HI.out.2.1
    have R3:Hid (RowAt wr 3 gs cs p (intRow sp)):=by
     have:=HI.out.2.2.1
     rw [intRow_append] at this
     have:=this.front
     rw [intRow_length,hp] at this
     exact this
    have TC:=hid (tail_cells (HI.out.2.2.1.alloc (.cells #[] 3)) hp)
    have hskl:(intRow sk).length=k * 1:=by rw [intRow_length,hsk,Nat.mul_one]
    have HSK:=hid hskl
    clear hskl
    by_cases hcp:cs=p
    ·subst hcp
     obtain rfl:k=0:=by omega
     obtain rfl:sk=[]:=List.length_eq_zero_iff.1 hsk
     simp only [Nat.add_zero] at *
     go_wp2_with (first
      | (at_builtin;refine wpList_append_own_at _ rfl (.tmp 33) (.tmp 39) 82 rfl (w.heap.size+1) 3 i0 (.int .i64 0) 1 8 Tryz.underlying82 HHI.out.1 HHI.out.2.1 HHI.out.2.2.1 HHI.out.2.2.2 rfl (by decide) _ _ _ rfl OWN1.out ⟨gs,0,none⟩ 0 (0) (intRow []) rfl rfl (fun j u h=>by cases h) (intRow_one []) (by unfold maxLen;omega) (by omega) (by simp;omega) ?_;intro v1 w1 o1 g1 nn1 b1;rw [Nat.zero_add,List.nil_append] at o1;have hnn1:=some_not_nil nn1;clear nn1;obtain ⟨r1,d1,rfl,rb1,rr1⟩:=RowAt.of_own o1 hnn1;have O1:=hid o1;have G1:=hid g1;have NN1:=hid hnn1;have B1:=hid b1;have hs1:=g1.size;clear o1 g1 hnn1 b1 rr1)
      | (at_builtin;refine wpList_append_own_at _ rfl (.tmp 32) (.tmp 41) 65 rfl (w.heap.size+1) 82 i1 (.slice none 0 0) 1 24 Tryz.underlying65 HHS.out.1 HHS.out.2.1 HHS.out.2.2.1 HHS.out.2.2.2 rfl (by decide) (.slice (some ⟨go,0,none⟩) L.length co) L.length (gridRow L) rfl (((((R2.out.alloc _).grown G1.out (fun e=>by injection e with e;exact absurd e (Nat.ne_of_gt hgo))).alloc _).own HI.out.2.2.2.2.1)) ⟨w1.heap.size,0,none⟩ 1 1 [.slice (some ⟨r1,0,none⟩) 0 d1] rfl rfl (cell_one_new _ _ _) (by simp [Value.oneCell']) (by unfold maxLen;omega) (by omega) (by simp at hs1;simp;omega) ?_;intro v2 w2 o2 g2 nn2 b2;have hnn2:=some_not_nil nn2;have O2:=hid o2;have G2:=hid g2;have NN2:=hid hnn2;have B2:=hid b2;have hs2:=g2.size;clear o2 g2 nn2 hnn2 b2)
      | (at_builtin;refine wpList_append_own_at _ rfl (.tmp 48) (.tmp 50) 82 rfl (w.heap.size+1) 3 i0 (.int .i64 0) 1 8 Tryz.underlying82 HHI.out.1 HHI.out.2.1 HHI.out.2.2.1 HHI.out.2.2.2 rfl (by decide) (.slice (some ⟨gs,0,none⟩) cs cs) cs (intRow sp) rfl (((((((R3.out.alloc _).grown G1.out (fun e=>by injection e with e;exact absurd e (Nat.ne_of_gt hgs))).alloc _).grown G2.out (fun e=>by injection e with e;exact hgne e)).alloc _).own HI.out.2.2.2.2.2.1)) ⟨w2.heap.size,0,none⟩ 1 1 [.int .i64 j] rfl rfl (cell_one_new _ _ _) (by simp [Value.oneCell']) (by unfold maxLen;omega) (by omega) (by simp at hs1 hs2;simp;omega) ?_;intro v3 w3 o3 g3 nn3 b3;have hnn3:=some_not_nil nn3;have O3:=hid o3;have G3:=hid g3;have NN3:=hid hnn3;have B3:=hid b3;clear o3 g3 nn3 hnn3 b3))
     have ST:=hid (KInv_step HI.out hBz HK.out hsk O1.out G1.out NN1.out B1.out O2.out G2.out NN2.out B2.out (by rw [hp];exact O3.out) G3.out NN3.out B3.out)
     clear O1 G1 NN1 B1 O2 G2 NN2 B2 O3 G3 NN3 B3
     go_wp2
     go_roundw
     case rel =>
      obtain ⟨L',s',go',co',gs',cs',e1,e2,hnew⟩:=ST.out
      exact ⟨j+1,L',s',go',co',gs',cs',by omega,by go_num,e1,e2,hnew⟩
     case measure=>simp [intOf];omega
    ·go_wp2_with (first
      | (at_builtin;refine wpList_append_own_at _ rfl (.tmp 33) (.tmp 39) 82 rfl (w.heap.size+1) 3 i0 (.int .i64 0) 1 8 Tryz.underlying82 HHI.out.1 HHI.out.2.1 HHI.out.2.2.1 HHI.out.2.2.2 rfl (by decide) _ _ _ rfl OWN1.out ⟨gs,p,none⟩ k (cs - p) (intRow sk) rfl HSK.out TC.out (intRow_one sk) (by unfold maxLen;omega) (by omega) (by simp;omega) ?_;intro v1 w1 o1 g1 nn1 b1;rw [Nat.zero_add,List.nil_append] at o1;have hnn1:=some_not_nil nn1;clear nn1;obtain ⟨r1,d1,rfl,rb1,rr1⟩:=RowAt.of_own o1 hnn1;have O1:=hid o1;have G1:=hid g1;have NN1:=hid hnn1;have B1:=hid b1;have hs1:=g1.size;clear o1 g1 hnn1 b1 rr1)
      | (at_builtin;refine wpList_append_own_at _ rfl (.tmp 32) (.tmp 41) 65 rfl (w.heap.size+1) 82 i1 (.slice none 0 0) 1 24 Tryz.underlying65 HHS.out.1 HHS.out.2.1 HHS.out.2.2.1 HHS.out.2.2.2 rfl (by decide) (.slice (some ⟨go,0,none⟩) L.length co) L.length (gridRow L) rfl (((((R2.out.alloc _).grown G1.out (fun e=>by injection e with e;exact absurd e (Nat.ne_of_gt hgo))).alloc _).own HI.out.2.2.2.2.1)) ⟨w1.heap.size,0,none⟩ 1 1 [.slice (some ⟨r1,0,none⟩) k d1] rfl rfl (cell_one_new _ _ _) (by simp [Value.oneCell']) (by unfold maxLen;omega) (by omega) (by simp at hs1;simp;omega) ?_;intro v2 w2 o2 g2 nn2 b2;have hnn2:=some_not_nil nn2;have O2:=hid o2;have G2:=hid g2;have NN2:=hid hnn2;have B2:=hid b2;have hs2:=g2.size;clear o2 g2 nn2 hnn2 b2)
      | (at_builtin;refine wpList_append_own_at _ rfl (.tmp 48) (.tmp 50) 82 rfl (w.heap.size+1) 3 i0 (.int .i64 0) 1 8 Tryz.underlying82 HHI.out.1 HHI.out.2.1 HHI.out.2.2.1 HHI.out.2.2.2 rfl (by decide) (.slice (some ⟨gs,0,none⟩) p cs) p (intRow sp) rfl (((((((R3.out.alloc _).grown G1.out (fun e=>by injection e with e;exact absurd e (Nat.ne_of_gt hgs))).alloc _).grown G2.out (fun e=>by injection e with e;exact hgne e)).alloc _).own HI.out.2.2.2.2.2.1)) ⟨w2.heap.size,0,none⟩ 1 1 [.int .i64 j] rfl rfl (cell_one_new _ _ _) (by simp [Value.oneCell']) (by unfold maxLen;omega) (by omega) (by simp at hs1 hs2;simp;omega) ?_;intro v3 w3 o3 g3 nn3 b3;have hnn3:=some_not_nil nn3;have O3:=hid o3;have G3:=hid g3;have NN3:=hid hnn3;have B3:=hid b3;clear o3 g3 nn3 hnn3 b3))
     have ST:=hid (KInv_step HI.out hBz HK.out hsk O1.out G1.out NN1.out B1.out O2.out G2.out NN2.out B2.out (by rw [hp];exact O3.out) G3.out NN3.out B3.out)
     clear O1 G1 NN1 B1 O2 G2 NN2 B2 O3 G3 NN3 B3
     go_wp2
     go_roundw
     case rel =>
      obtain ⟨L',s',go',co',gs',cs',e1,e2,hnew⟩:=ST.out
      exact ⟨j+1,L',s',go',co',gs',cs',by omega,by go_num,e1,e2,hnew⟩
     case measure=>simp [intOf];omega
   ·have HBAD:=hid (kidsF_bad HI.out.1 hok N hlt)
    by_cases hneg:(nd j).kids < 0
    ·go_wp2
     refine bodyPost_ret (v:=.tuple #[.slice (some ⟨go,0,none⟩) L.length co,.bool false]) (by simp [results,Tryz.results35,go_sem]) rfl ⟨btree HI.out.2.2.2.2.2.2.2,.inl ⟨_,rfl,fun o x h=>?_⟩⟩
     rw [HBAD.out] at h;cases h
    ·have hge:0≤(nd j).kids:=by omega
     have hgt:(s.length:Int) < (nd j).kids:=by omega
     go_wp2
     refine bodyPost_ret (v:=.tuple #[.slice (some ⟨go,0,none⟩) L.length co,.bool false]) (by simp [results,Tryz.results35,go_sem]) rfl ⟨btree HI.out.2.2.2.2.2.2.2,.inl ⟨_,rfl,fun o x h=>?_⟩⟩
     rw [HBAD.out] at h;cases h
  ·obtain rfl:j=N:=by omega
   by_cases h1:s.length=1
   ·obtain ⟨x,rfl⟩:=List.length_eq_one_iff.1 h1
    go_wp2
    refine bodyPost_ret (v:=.tuple #[.slice (some ⟨go,0,none⟩) L.length co,.bool true]) (by simp [results,Tryz.results35,go_sem]) rfl ⟨btree HI.out.2.2.2.2.2.2.2,.inr ⟨L,x,go,co,rfl,HI.out.1,HI.out.2.1,by have:=HI.out.2.2.2.2.1;omega,fun x hx=>?_⟩⟩
    obtain ⟨x1,_,_,x4⟩:=HI.out.2.2.2.2.2.2.1 x hx
    exact ⟨by omega,x4⟩
   ·have h2:((s.length:Int) == 1)=false:=by simp;omega
    go_wp2
    refine bodyPost_ret (v:=.tuple #[.slice (some ⟨go,0,none⟩) L.length co,.bool false]) (by simp [results,Tryz.results35,go_sem]) rfl ⟨btree HI.out.2.2.2.2.2.2.2,.inl ⟨_,rfl,fun o x h=>?_⟩⟩
    rw [HI.out.1] at h
    injection h with h
    injection h with _ h
    rw [h] at h1
    exact h1 rfl
def SixAt (W:World) (g o:Nat) (x:Nd) (h:Nat):Prop :=
 W.cell? ⟨g,o,none⟩=some (.int .i64 x.kind)∧W.cell? ⟨g,o+1,none⟩=some (.int .i64 x.op)∧W.cell? ⟨g,o+2,none⟩=some (.int .i64 x.n)∧W.cell? ⟨g,o+3,none⟩=some (.string x.text)∧W.cell? ⟨g,o+4,none⟩=some (.int .i64 x.kids)∧W.cell? ⟨g,o+5,none⟩=some (.int .i64 h)
theorem SixAt.below {W W':World} {B g o h:Nat} {x:Nd} (hs:SixAt W g o x h) (hb:Below B W W') (hB:g < B):SixAt W' g o x h:=by
 obtain ⟨h0,h1,h2,h3,h4,h5⟩:=hs
 exact ⟨(hb.cell (p:=⟨g,_,none⟩) hB).trans h0,(hb.cell (p:=⟨g,_,none⟩) hB).trans h1,(hb.cell (p:=⟨g,_,none⟩) hB).trans h2,(hb.cell (p:=⟨g,_,none⟩) hB).trans h3,(hb.cell (p:=⟨g,_,none⟩) hB).trans h4,(hb.cell (p:=⟨g,_,none⟩) hB).trans h5⟩
def StandAt (W:World) (g o m:Nat) (st:Nat→Nd) (hi:Nat→Nat):Prop:=∀ i,i < m→SixAt W g (o+i * 6) (st i) (hi i)
theorem StandAt.below {W W':World} {B g o m:Nat} {st:Nat→Nd} {hi:Nat→Nat} (h:StandAt W g o m st hi) (hb:Below B W W') (hB:g < B):StandAt W' g o m st hi:=fun i hm=>(h i hm).below hb hB
def StA (W:World) (ad:Option Addr) (m:Nat) (st:Nat→Nd) (hi:Nat→Nat):Prop:=m=0∨∃ g o,ad=some ⟨g,o,none⟩∧g < W.heap.size∧StandAt W g o m st hi
theorem StA.below {W W':World} {ad:Option Addr} {m:Nat} {st:Nat→Nd} {hi:Nat→Nat} (h:StA W ad m st hi) (hb:Below W.heap.size W W'):StA W' ad m st hi:=by
 rcases h with h | ⟨g,o,rfl,h1,h2⟩
 ·exact .inl h
 ·exact .inr ⟨g,o,rfl,Nat.lt_of_lt_of_le h1 hb.size,h2.below hb h1⟩
end Go.Proofs.YtabbahpalemlhaaGreatDoor
namespace Go.Proofs.YtabbahpalemlhaaGreatDoor
open Go.RowKit Go.Maps Go.WideMaps
set_option maxRecDepth 20000
def keyL (t:ByteArray):Lit:=.string t.data.toList
theorem keyL_ne {a b:ByteArray} (h:¬ a=b):keyL a≠keyL b:=fun e=>h (ByteArray.ext (Array.toList_inj.1 (by injection e)))
end Go.Proofs.YtabbahpalemlhaaGreatDoor
namespace Go.Proofs.YtabbahpalemlhaaGreatDoor
open Go.RowKit
set_option maxRecDepth 20000
theorem StandAt.front {W:World} {g o m f:Nat} {st:Nat→Nd} {sh:Nat→Nat} (h:StandAt W g o m st sh) (hf:f≤m):StandAt W g o f st sh:=fun i hi=>h i (by omega)
theorem StandAt.back {W:World} {g o m f:Nat} {st:Nat→Nd} {sh:Nat→Nat} (h:StandAt W g o m st sh):StandAt W g (o+f * 6) (m - f) (fun i=>st (f+i)) (fun i=>sh (f+i)):=fun i hi=>by
 have:=h (f+i) (by omega)
 rw [show o+(f+i) * 6=o+f * 6+i * 6 by omega] at this
 exact this
end Go.Proofs.YtabbahpalemlhaaGreatDoor
