import Derived.OwnWalk
import Derived.Laws.Bits64
import Derived.Maps.AppendAt
import Derived.Deep.RegionLaw
import Derived.Test.YtabbahpalemlhaaGreatDoorJ02
import Derived.Test.YtabbahpalemlhaaGreatDoorJ03
namespace Go.Proofs.YtabbahpalemlhaaGreatDoor
open Go.RowKit
set_option maxRecDepth 20000
set_option maxHeartbeats 4000000 in
theorem l2Plain_B (k:Int) (hk:k=7∨k=8∨k=9∨k=10∨k=11∨k=12):Pl1 k:=by
 intro op n kids t w ht
 unfold ndV
 have HT:=hid ht
 clear ht
 rcases hk with rfl | rfl | rfl | rfl | rfl | rfl
 all_goals
  go_enter Tryz.func51,Tryz.ntmps51
  go_wp2_with (first
   | (go_at_call 50;refine (l1In_dec _ _ _ _).mono ?_;rintro e w' ⟨rfl,rfl⟩)
   | (go_at_call 69;refine (l2Package_any t _ HT.out).mono ?_;rintro e w' ⟨hs,rfl⟩;rcases hs.get with ⟨rfl,hp⟩ | ⟨rfl,hp⟩)
   | (go_at_call 56;refine (l1NameOk_any t _ HT.out).mono ?_;rintro e w1 ⟨hs,hb⟩;rcases hs.get with ⟨rfl,hp⟩ | ⟨rfl,hp⟩))
  all_goals go_ret
  all_goals refine ⟨⟨_,rfl,?_⟩,?_⟩
  all_goals first
   | exact (Below.refl w.heap.size w).alloc (Nat.le_refl _) _
   | exact Below.trans ((Below.refl w.heap.size w).alloc (Nat.le_refl _) _) (Below.mono hb (B':=w.heap.size) (by simp))
   | (simp [PlainNd,hasText,inR, *];done)
   | ((try simp only [bne_iff_ne,bne_eq_false_iff_eq,ne_eq] at *);(try simp [PlainNd,hasText,inR, *]);done)
set_option maxHeartbeats 4000000 in
theorem l2Plain_C (k:Int) (hk:k=13∨k=14∨k=15∨k=16∨k=17∨k=18):Pl1 k:=by
 intro op n kids t w ht
 unfold ndV
 have HT:=hid ht
 clear ht
 rcases hk with rfl | rfl | rfl | rfl | rfl | rfl
 all_goals
  go_enter Tryz.func51,Tryz.ntmps51
  go_wp2_with (first
   | (go_at_call 50;refine (l1In_dec _ _ _ _).mono ?_;rintro e w' ⟨rfl,rfl⟩)
   | (go_at_call 69;refine (l2Package_any t _ HT.out).mono ?_;rintro e w' ⟨hs,rfl⟩;rcases hs.get with ⟨rfl,hp⟩ | ⟨rfl,hp⟩)
   | (go_at_call 56;refine (l1NameOk_any t _ HT.out).mono ?_;rintro e w1 ⟨hs,hb⟩;rcases hs.get with ⟨rfl,hp⟩ | ⟨rfl,hp⟩))
  all_goals go_ret
  all_goals refine ⟨⟨_,rfl,?_⟩,?_⟩
  all_goals first
   | exact (Below.refl w.heap.size w).alloc (Nat.le_refl _) _
   | exact Below.trans ((Below.refl w.heap.size w).alloc (Nat.le_refl _) _) (Below.mono hb (B':=w.heap.size) (by simp))
   | (simp [PlainNd,hasText,inR, *];done)
   | ((try simp only [bne_iff_ne,bne_eq_false_iff_eq,ne_eq] at *);(try simp [PlainNd,hasText,inR, *]);done)
   | ((try simp only [bne_eq_false_iff_eq] at *);(try simp [PlainNd,hasText,inR, *]);omega)
set_option maxHeartbeats 4000000 in
theorem l2Plain_E (k:Int) (hk:k < 1∨24 < k):Pl1 k:=by
 intro op n kids t w ht
 unfold ndV
 have HT:=hid ht
 clear ht
 have e2:(k == 2)=false:=by simp;omega
 have n2:(k != 2)=true:=by simp;omega
 have q2:¬ k=2:=by omega
 have e3:(k == 3)=false:=by simp;omega
 have n3:(k != 3)=true:=by simp;omega
 have q3:¬ k=3:=by omega
 have e4:(k == 4)=false:=by simp;omega
 have n4:(k != 4)=true:=by simp;omega
 have q4:¬ k=4:=by omega
 have e5:(k == 5)=false:=by simp;omega
 have n5:(k != 5)=true:=by simp;omega
 have q5:¬ k=5:=by omega
 have e6:(k == 6)=false:=by simp;omega
 have n6:(k != 6)=true:=by simp;omega
 have q6:¬ k=6:=by omega
 have e7:(k == 7)=false:=by simp;omega
 have n7:(k != 7)=true:=by simp;omega
 have q7:¬ k=7:=by omega
 have e11:(k == 11)=false:=by simp;omega
 have n11:(k != 11)=true:=by simp;omega
 have q11:¬ k=11:=by omega
 have e14:(k == 14)=false:=by simp;omega
 have n14:(k != 14)=true:=by simp;omega
 have q14:¬ k=14:=by omega
 have e17:(k == 17)=false:=by simp;omega
 have n17:(k != 17)=true:=by simp;omega
 have q17:¬ k=17:=by omega
 have e23:(k == 23)=false:=by simp;omega
 have n23:(k != 23)=true:=by simp;omega
 have q23:¬ k=23:=by omega
 have r1:(decide (16≤k) && decide (k≤21))=false:=by simp;omega
 have r2:16≤k→21 < k:=by omega
 clear hk
 go_enter Tryz.func51,Tryz.ntmps51
 go_wp2_with (first
  | (go_at_call 50;refine (l1In_dec _ _ _ _).mono ?_;rintro e w' ⟨rfl,rfl⟩)
  | (go_at_call 69;refine (l2Package_any t _ HT.out).mono ?_;rintro e w' ⟨hs,rfl⟩;rcases hs.get with ⟨rfl,hp⟩ | ⟨rfl,hp⟩)
  | (go_at_call 56;refine (l1NameOk_any t _ HT.out).mono ?_;rintro e w1 ⟨hs,hb⟩;rcases hs.get with ⟨rfl,hp⟩ | ⟨rfl,hp⟩))
 all_goals go_ret
 all_goals refine ⟨⟨_,rfl,?_⟩,?_⟩
 all_goals first
  | exact (Below.refl w.heap.size w).alloc (Nat.le_refl _) _
  | exact Below.trans ((Below.refl w.heap.size w).alloc (Nat.le_refl _) _) (Below.mono hb (B':=w.heap.size) (by simp))
  | (simp [PlainNd,hasText,inR, *];done)
  | ((try simp only [bne_iff_ne,bne_eq_false_iff_eq,ne_eq] at *);(try simp [PlainNd,hasText,inR, *]);done)
set_option maxHeartbeats 4000000 in
theorem KO_B (kind:Int) (hkind:kind=2∨kind=3∨kind=4∨kind=5∨kind=7∨kind=8):KO kind:=by
 intro b N cap g o m c nd ks w hm hb hg hn hk
 have HN:=hid hn
 have HK:=hid hk
 clear hn hk
 go_enter Tryz.func52,Tryz.ntmps52
 go_wp2
 go_loopw [8,10] (fun es i wr=>∃ j e:Nat,j≤m∧e≤j∧i=.int .i64 j∧es=.int .i64 e∧(e=j ↔ AllE j (fun i=>nd (ks i)))∧Below (w.heap.size+1) (w.alloc (.cells #[.slice (some ⟨b,0,none⟩) N cap] 50)) wr) (fun _ i _=>m - (intOf i).toNat)
 case atStart=>exact ⟨0,0,Nat.zero_le _,Nat.zero_le _,rfl,rfl,⟨fun _ i h=>absurd h (Nat.not_lt_zero _),fun _=>rfl⟩,Below.refl _ _⟩
 case round =>
  obtain ⟨j,e,hj,he,rfl,rfl,hall,hbw⟩:=hrel
  have HALL:=hid hall
  have HBW:=hid hbw
  clear hall hbw
  by_cases hlt:j < m
  ·have t0:=tree_cell HBW.out
   obtain ⟨a0,a1⟩:=(HK.out.below (btree HBW.out) hg) j hlt
   obtain ⟨a2,_⟩:=(HN.out.below (btree HBW.out) hb) (ks j) a1
   have HS:=hid (AllE_step HALL.out he)
   cases hE:isE (nd (ks j)).kind
   ·have NX:=hid (HS.out.2 hE)
    clear HS
    go_wp2
    go_region_with (go_at_call 70;refine (l2E_any _ _).mono ?_;rintro e w' ⟨rfl,hw⟩;have hw2:=hw.symm;clear hw;subst hw2)
    all_goals go_wp2
    all_goals
     go_roundw
     case rel=>exact ⟨j+1,e,by omega,by omega,by go_num,rfl,NX.out,HBW.out.drew⟩
     case measure=>simp [intOf];omega
   ·have NX:=hid (HS.out.1 hE)
    clear HS
    go_wp2
    go_region_with (go_at_call 70;refine (l2E_any _ _).mono ?_;rintro e w' ⟨rfl,hw⟩;have hw2:=hw.symm;clear hw;subst hw2)
    all_goals go_wp2
    all_goals
     go_roundw
     case rel=>exact ⟨j+1,e+1,by omega,by omega,by go_num,by go_num,NX.out,HBW.out.drew⟩
     case measure=>simp [intOf];omega
  ·obtain rfl:j=m:=by omega
   rcases hkind with rfl | rfl | rfl | rfl | rfl | rfl
   all_goals go_wp2
   all_goals go_ret
   all_goals refine ⟨⟨_,rfl,?_⟩,btree HBW.out⟩
   all_goals simp [KidsOk,← HALL.out, *]
   all_goals omega
set_option maxHeartbeats 4000000 in
theorem KO_C (kind:Int) (hkind:kind=10∨kind=11∨kind=13∨kind=14∨kind=17):KO kind:=by
 intro b N cap g o m c nd ks w hm hb hg hn hk
 have HN:=hid hn
 have HK:=hid hk
 clear hn hk
 go_enter Tryz.func52,Tryz.ntmps52
 go_wp2
 go_loopw [8,10] (fun es i wr=>∃ j e:Nat,j≤m∧e≤j∧i=.int .i64 j∧es=.int .i64 e∧(e=j ↔ AllE j (fun i=>nd (ks i)))∧Below (w.heap.size+1) (w.alloc (.cells #[.slice (some ⟨b,0,none⟩) N cap] 50)) wr) (fun _ i _=>m - (intOf i).toNat)
 case atStart=>exact ⟨0,0,Nat.zero_le _,Nat.zero_le _,rfl,rfl,⟨fun _ i h=>absurd h (Nat.not_lt_zero _),fun _=>rfl⟩,Below.refl _ _⟩
 case round =>
  obtain ⟨j,e,hj,he,rfl,rfl,hall,hbw⟩:=hrel
  have HALL:=hid hall
  have HBW:=hid hbw
  clear hall hbw
  by_cases hlt:j < m
  ·have t0:=tree_cell HBW.out
   obtain ⟨a0,a1⟩:=(HK.out.below (btree HBW.out) hg) j hlt
   obtain ⟨a2,_⟩:=(HN.out.below (btree HBW.out) hb) (ks j) a1
   have HS:=hid (AllE_step HALL.out he)
   cases hE:isE (nd (ks j)).kind
   ·have NX:=hid (HS.out.2 hE)
    clear HS
    go_wp2
    go_region_with (go_at_call 70;refine (l2E_any _ _).mono ?_;rintro e w' ⟨rfl,hw⟩;have hw2:=hw.symm;clear hw;subst hw2)
    all_goals go_wp2
    all_goals
     go_roundw
     case rel=>exact ⟨j+1,e,by omega,by omega,by go_num,rfl,NX.out,HBW.out.drew⟩
     case measure=>simp [intOf];omega
   ·have NX:=hid (HS.out.1 hE)
    clear HS
    go_wp2
    go_region_with (go_at_call 70;refine (l2E_any _ _).mono ?_;rintro e w' ⟨rfl,hw⟩;have hw2:=hw.symm;clear hw;subst hw2)
    all_goals go_wp2
    all_goals
     go_roundw
     case rel=>exact ⟨j+1,e+1,by omega,by omega,by go_num,by go_num,NX.out,HBW.out.drew⟩
     case measure=>simp [intOf];omega
  ·obtain rfl:j=m:=by omega
   rcases hkind with rfl | rfl | rfl | rfl | rfl
   all_goals go_wp2
   all_goals go_ret
   all_goals refine ⟨⟨_,rfl,?_⟩,btree HBW.out⟩
   all_goals simp [KidsOk,← HALL.out, *]
   all_goals omega
set_option maxHeartbeats 4000000 in
theorem KO_D (kind:Int) (hkind:kind=18∨kind=19∨kind=21∨kind=22):KO kind:=by
 intro b N cap g o m c nd ks w hm hb hg hn hk
 have HN:=hid hn
 have HK:=hid hk
 clear hn hk
 go_enter Tryz.func52,Tryz.ntmps52
 go_wp2
 go_loopw [8,10] (fun es i wr=>∃ j e:Nat,j≤m∧e≤j∧i=.int .i64 j∧es=.int .i64 e∧(e=j ↔ AllE j (fun i=>nd (ks i)))∧Below (w.heap.size+1) (w.alloc (.cells #[.slice (some ⟨b,0,none⟩) N cap] 50)) wr) (fun _ i _=>m - (intOf i).toNat)
 case atStart=>exact ⟨0,0,Nat.zero_le _,Nat.zero_le _,rfl,rfl,⟨fun _ i h=>absurd h (Nat.not_lt_zero _),fun _=>rfl⟩,Below.refl _ _⟩
 case round =>
  obtain ⟨j,e,hj,he,rfl,rfl,hall,hbw⟩:=hrel
  have HALL:=hid hall
  have HBW:=hid hbw
  clear hall hbw
  by_cases hlt:j < m
  ·have t0:=tree_cell HBW.out
   obtain ⟨a0,a1⟩:=(HK.out.below (btree HBW.out) hg) j hlt
   obtain ⟨a2,_⟩:=(HN.out.below (btree HBW.out) hb) (ks j) a1
   have HS:=hid (AllE_step HALL.out he)
   cases hE:isE (nd (ks j)).kind
   ·have NX:=hid (HS.out.2 hE)
    clear HS
    go_wp2
    go_region_with (go_at_call 70;refine (l2E_any _ _).mono ?_;rintro e w' ⟨rfl,hw⟩;have hw2:=hw.symm;clear hw;subst hw2)
    all_goals go_wp2
    all_goals
     go_roundw
     case rel=>exact ⟨j+1,e,by omega,by omega,by go_num,rfl,NX.out,HBW.out.drew⟩
     case measure=>simp [intOf];omega
   ·have NX:=hid (HS.out.1 hE)
    clear HS
    go_wp2
    go_region_with (go_at_call 70;refine (l2E_any _ _).mono ?_;rintro e w' ⟨rfl,hw⟩;have hw2:=hw.symm;clear hw;subst hw2)
    all_goals go_wp2
    all_goals
     go_roundw
     case rel=>exact ⟨j+1,e+1,by omega,by omega,by go_num,by go_num,NX.out,HBW.out.drew⟩
     case measure=>simp [intOf];omega
  ·obtain rfl:j=m:=by omega
   rcases hkind with rfl | rfl | rfl | rfl
   all_goals go_wp2
   all_goals go_ret
   all_goals refine ⟨⟨_,rfl,?_⟩,btree HBW.out⟩
   all_goals simp [KidsOk,← HALL.out, *]
   all_goals omega
theorem KidsOk_no (kind:Int) (h:kind < 1∨24 < kind) (m:Nat) (nd:Nat→Nd):¬ KidsOk kind m nd:=by
 unfold KidsOk
 rintro (h | h | h | h | h | h | h | h | h | h | h | h)
 all_goals have h0:=h.1
 all_goals omega
set_option maxHeartbeats 4000000 in
theorem KO_E (kind:Int) (hkind:kind < 1∨24 < kind):KO kind:=by
 have HNO:=hid (KidsOk_no kind hkind)
 have e1:(kind == 1)=false:=by simp;omega
 have e2:(kind == 2)=false:=by simp;omega
 have e3:(kind == 3)=false:=by simp;omega
 have e4:(kind == 4)=false:=by simp;omega
 have e5:(kind == 5)=false:=by simp;omega
 have e6:(kind == 6)=false:=by simp;omega
 have e7:(kind == 7)=false:=by simp;omega
 have e8:(kind == 8)=false:=by simp;omega
 have e9:(kind == 9)=false:=by simp;omega
 have e10:(kind == 10)=false:=by simp;omega
 have e11:(kind == 11)=false:=by simp;omega
 have e12:(kind == 12)=false:=by simp;omega
 have e13:(kind == 13)=false:=by simp;omega
 have e14:(kind == 14)=false:=by simp;omega
 have e15:(kind == 15)=false:=by simp;omega
 have e16:(kind == 16)=false:=by simp;omega
 have e17:(kind == 17)=false:=by simp;omega
 have e18:(kind == 18)=false:=by simp;omega
 have e19:(kind == 19)=false:=by simp;omega
 have e20:(kind == 20)=false:=by simp;omega
 have e21:(kind == 21)=false:=by simp;omega
 have e22:(kind == 22)=false:=by simp;omega
 have e23:(kind == 23)=false:=by simp;omega
 have e24:(kind == 24)=false:=by simp;omega
 intro b N cap g o m c nd ks w hm hb hg hn hk
 have HN:=hid hn
 have HK:=hid hk
 clear hn hk
 go_enter Tryz.func52,Tryz.ntmps52
 go_wp2
 go_loopw [8,10] (fun es i wr=>∃ j e:Nat,j≤m∧e≤j∧i=.int .i64 j∧es=.int .i64 e∧(e=j ↔ AllE j (fun i=>nd (ks i)))∧Below (w.heap.size+1) (w.alloc (.cells #[.slice (some ⟨b,0,none⟩) N cap] 50)) wr) (fun _ i _=>m - (intOf i).toNat)
 case atStart=>exact ⟨0,0,Nat.zero_le _,Nat.zero_le _,rfl,rfl,⟨fun _ i h=>absurd h (Nat.not_lt_zero _),fun _=>rfl⟩,Below.refl _ _⟩
 case round =>
  obtain ⟨j,e,hj,he,rfl,rfl,hall,hbw⟩:=hrel
  have HALL:=hid hall
  have HBW:=hid hbw
  clear hall hbw
  by_cases hlt:j < m
  ·have t0:=tree_cell HBW.out
   obtain ⟨a0,a1⟩:=(HK.out.below (btree HBW.out) hg) j hlt
   obtain ⟨a2,_⟩:=(HN.out.below (btree HBW.out) hb) (ks j) a1
   have HS:=hid (AllE_step HALL.out he)
   cases hE:isE (nd (ks j)).kind
   ·have NX:=hid (HS.out.2 hE)
    clear HS
    go_wp2
    go_region_with (go_at_call 70;refine (l2E_any _ _).mono ?_;rintro e w' ⟨rfl,hw⟩;have hw2:=hw.symm;clear hw;subst hw2)
    all_goals go_wp2
    all_goals
     go_roundw
     case rel=>exact ⟨j+1,e,by omega,by omega,by go_num,rfl,NX.out,HBW.out.drew⟩
     case measure=>simp [intOf];omega
   ·have NX:=hid (HS.out.1 hE)
    clear HS
    go_wp2
    go_region_with (go_at_call 70;refine (l2E_any _ _).mono ?_;rintro e w' ⟨rfl,hw⟩;have hw2:=hw.symm;clear hw;subst hw2)
    all_goals go_wp2
    all_goals
     go_roundw
     case rel=>exact ⟨j+1,e+1,by omega,by omega,by go_num,by go_num,NX.out,HBW.out.drew⟩
     case measure=>simp [intOf];omega
  ·obtain rfl:j=m:=by omega
   go_wp2
   go_ret
   exact ⟨says_f (HNO.out _ _),btree HBW.out⟩
theorem KidsOk_9 (m:Nat) (nd:Nat→Nd):KidsOk 9 m nd ↔ m≤200∧(∀ i,i < m→(nd i).kind=17)∧Apart m nd:=by simp [KidsOk]
theorem KidsOk_15 (m:Nat) (nd:Nat→Nd):KidsOk 15 m nd ↔ 1≤m∧m≤9∧(∀ i,i+1 < m→(nd i).kind=19)∧isE (nd (m - 1)).kind=true:=by simp [KidsOk]
theorem KidsOk_20 (m:Nat) (nd:Nat→Nd):KidsOk 20 m nd ↔ 1≤m∧m≤9∧(∀ i,i+1 < m→(nd i).kind=19)∧isE (nd (m - 1)).kind=true:=by simp [KidsOk]
set_option maxHeartbeats 4000000 in
theorem KO_9:KO 9:=by
 intro b N cap g o m c nd ks w hm hb hg hn hk
 have HN:=hid hn
 have HK:=hid hk
 clear hn hk
 go_enter Tryz.func52,Tryz.ntmps52
 go_wp2
 go_loopw [8,10] (fun es i wr=>∃ j e:Nat,j≤m∧e≤j∧i=.int .i64 j∧es=.int .i64 e∧(e=j ↔ AllE j (fun i=>nd (ks i)))∧Below (w.heap.size+1) (w.alloc (.cells #[.slice (some ⟨b,0,none⟩) N cap] 50)) wr) (fun _ i _=>m - (intOf i).toNat)
 case atStart=>exact ⟨0,0,Nat.zero_le _,Nat.zero_le _,rfl,rfl,⟨fun _ i h=>absurd h (Nat.not_lt_zero _),fun _=>rfl⟩,Below.refl _ _⟩
 case round =>
  obtain ⟨j,e,hj,he,rfl,rfl,hall,hbw⟩:=hrel
  have HALL:=hid hall
  have HBW:=hid hbw
  clear hall hbw
  by_cases hlt:j < m
  ·have t0:=tree_cell HBW.out
   obtain ⟨a0,a1⟩:=(HK.out.below (btree HBW.out) hg) j hlt
   obtain ⟨a2,_⟩:=(HN.out.below (btree HBW.out) hb) (ks j) a1
   have HS:=hid (AllE_step HALL.out he)
   cases hE:isE (nd (ks j)).kind
   ·have NX:=hid (HS.out.2 hE)
    clear HS
    go_wp2
    go_region_with (go_at_call 70;refine (l2E_any _ _).mono ?_;rintro e w' ⟨rfl,hw⟩;have hw2:=hw.symm;clear hw;subst hw2)
    all_goals go_wp2
    all_goals
     go_roundw
     case rel=>exact ⟨j+1,e,by omega,by omega,by go_num,rfl,NX.out,HBW.out.drew⟩
     case measure=>simp [intOf];omega
   ·have NX:=hid (HS.out.1 hE)
    clear HS
    go_wp2
    go_region_with (go_at_call 70;refine (l2E_any _ _).mono ?_;rintro e w' ⟨rfl,hw⟩;have hw2:=hw.symm;clear hw;subst hw2)
    all_goals go_wp2
    all_goals
     go_roundw
     case rel=>exact ⟨j+1,e+1,by omega,by omega,by go_num,by go_num,NX.out,HBW.out.drew⟩
     case measure=>simp [intOf];omega
  ·obtain rfl:j=m:=by omega
   go_wp2
   go_loopw [16] (fun i wr=>∃ q:Nat,q≤j∧i=.int .i64 q∧(∀ i,i < q→(nd (ks i)).kind=17)∧Below (w.heap.size+1) (w.alloc (.cells #[.slice (some ⟨b,0,none⟩) N cap] 50)) wr) (fun i _=>j - (intOf i).toNat)
   case atStart=>exact ⟨0,Nat.zero_le _,rfl,fun i h=>absurd h (Nat.not_lt_zero _),HBW.out⟩
   case round =>
    rename_i wo wr
    obtain ⟨q,hq,rfl,hin,hbw⟩:=hrel
    have HQ:=hid hin
    have HB2:=hid hbw
    clear hin hbw
    by_cases hl2:q < j
    ·have t0:=tree_cell HB2.out
     obtain ⟨a0,a1⟩:=(HK.out.below (btree HB2.out) hg) q (by omega)
     obtain ⟨a2,_⟩:=(HN.out.below (btree HB2.out) hb) (ks q) a1
     cases hE:((nd (ks q)).kind != 17)
     ·have HF:=hid (show (nd (ks q)).kind=17 by simpa using hE)
      go_wp2
      try go_region
      all_goals go_wp2
      all_goals
       go_roundw
       case rel=>exact ⟨q+1,by omega,by go_num,all_step HQ.out HF.out,by first | exact HB2.out | exact HB2.out.drew⟩
       case measure=>simp [intOf];omega
     ·have HF:=hid (show ¬ (nd (ks q)).kind=17 by simpa using hE)
      go_wp2
      try go_region
      all_goals go_wp2
      all_goals go_ret
      all_goals exact ⟨says_f (fun h=>HF.out (((KidsOk_9 _ _).1 h).2.1 q (by omega))),by first | exact btree HB2.out | exact (btree HB2.out).drew⟩
    ·obtain rfl:q=j:=by omega
     have t0:=tree_cell HB2.out
     have hz:=HB2.out.size
     rw [World.size_alloc] at hz
     by_cases h200:q≤200
     ·go_wp2_with (go_at_call 71;refine (l2Apart_any b N cap g o q c nd ks _ (by omega) (by omega) (by omega) (HN.out.below (btree HB2.out) hb) (HK.out.below (btree HB2.out) hg)).mono ?_;rintro e w1 ⟨hs,hb1⟩;rcases hs.get with ⟨rfl,hp⟩ | ⟨rfl,hp⟩)
      all_goals go_ret
      ·exact ⟨says_t ((KidsOk_9 _ _).2 ⟨h200,HQ.out,hp⟩),(btree HB2.out).trans (hb1.mono (by omega))⟩
      ·exact ⟨says_f (fun h=>hp ((KidsOk_9 _ _).1 h).2.2),(btree HB2.out).trans (hb1.mono (by omega))⟩
     ·go_wp2
      go_ret
      exact ⟨says_f (fun h=>h200 ((KidsOk_9 _ _).1 h).1),btree HB2.out⟩
end Go.Proofs.YtabbahpalemlhaaGreatDoor
namespace Go.Proofs.YtabbahpalemlhaaGreatDoor
open Go.RowKit Go.Maps Go.WideMaps
set_option maxRecDepth 20000
structure Sv (S:Nat→Prop) (w w':World):Prop where
 os:w'.os=w.os
 tape:w'.tape=w.tape
 output:w'.output=w.output
 size:w.heap.size≤w'.heap.size
 block:∀ k,k < w.heap.size→¬ S k→w'.heap[k]?=w.heap[k]?
theorem Sv.refl (S:Nat→Prop) (w:World):Sv S w w:=⟨rfl,rfl,rfl,Nat.le_refl _,fun _ _ _=>rfl⟩
theorem Sv.trans {S:Nat→Prop} {a b c:World} (h:Sv S a b) (k:Sv S b c):Sv S a c :=
 ⟨k.os.trans h.os,k.tape.trans h.tape,k.output.trans h.output,Nat.le_trans h.size k.size,fun i hi hs=>(k.block i (Nat.lt_of_lt_of_le hi h.size) hs).trans (h.block i hi hs)⟩
theorem Sv.of_below {S:Nat→Prop} {a b:World} (h:Below a.heap.size a b):Sv S a b:=⟨h.os,h.tape,h.output,h.size,fun k hk _=>h.block k hk⟩
theorem Sv.below {S:Nat→Prop} {a b:World} (h:Sv S a b) {B:Nat} (hB:B≤a.heap.size) (hS:∀ k,S k→B≤k):Below B a b:=⟨h.os,h.tape,h.output,h.size,fun k hk=>h.block k (by omega) fun hs=>by have:=hS k hs;omega⟩
theorem Sv.alloc {S:Nat→Prop} {a w:World} (h:Sv S a w) (o:Obj):Sv S a (w.alloc o):=h.trans (Sv.of_below ((Below.refl _ _).alloc (Nat.le_refl _) o))
theorem Sv.drew {S:Nat→Prop} {a w:World} (h:Sv S a w):Sv S a w.drew:=⟨h.os,h.tape,h.output,h.size,h.block⟩
theorem Sv.setCell {S:Nat→Prop} {a w:World} (h:Sv S a w) {p:Addr} (hp:S p.block∨a.heap.size≤p.block) (u:Value):Sv S a (w.setCell p u) :=
 ⟨h.os,h.tape,h.output,by have:=h.size;simpa [World.setCell] using this,fun k hk hs=>(Below.heap_setCell _ _ _ _ (by rintro rfl;rcases hp with hp | hp;exact hs hp;omega)).trans (h.block k hk hs)⟩
theorem Sv.grown {S:Nat→Prop} {a w w':World} {row:Option Nat} (h:Sv S a w) (hg:w.grownBy w' row) (hr:∀ k,row=some k→S k∨a.heap.size≤k):Sv S a w' :=
 ⟨hg.os.trans h.os,hg.tape.trans h.tape,hg.output.trans h.output,Nat.le_trans h.size hg.size,fun k hk hs=>(hg.block k (Nat.lt_of_lt_of_le hk h.size) (fun e=>by rcases hr k e.symm with h | h;exact hs h;omega)).trans (h.block k hk hs)⟩
theorem Sv.cell {S:Nat→Prop} {a w:World} (h:Sv S a w) {p:Addr} (hp:p.block < a.heap.size) (hs:¬ S p.block):w.cell? p=a.cell? p:=World.cell?_of_block (w:=a) (h.block p.block hp hs)
def Stb (S:Nat→Prop) (w:World) (Q:World→Prop):Prop:=∀ w',Sv S w w'→Q w'
theorem Stb.now {S:Nat→Prop} {w:World} {Q:World→Prop} (h:Stb S w Q):Q w:=h w (Sv.refl S w)
theorem Stb.go {S:Nat→Prop} {w w':World} {Q:World→Prop} (h:Stb S w Q) (hs:Sv S w w'):Stb S w' Q:=fun w'' h2=>h w'' (hs.trans h2)
def MapIs (W:World) (m n:Nat) (f:ByteArray→Option Int):Prop:=∃ D:DataW Unit,W.ownsMap Tryz.prog 9 (plainElem Tryz.prog 3) m n D ∧
 ∀ t,(f t=none→Maps.has D (keyL t)=false)∧∀ v,f t=some v→Maps.has D (keyL t)=true∧D.atKey (keyL t) (.lit (.int .i64 0))=.lit (.int .i64 v)
theorem MapIs.lt {W:World} {m n:Nat} {f:ByteArray→Option Int} (h:MapIs W m n f):m < W.heap.size:=by
 obtain ⟨D,h,_⟩:=h
 exact h.lt
theorem MapIs.keep {W W':World} {m n:Nat} {f:ByteArray→Option Int} (h:MapIs W m n f) (hk:W'.heap[m]?=W.heap[m]?):MapIs W' m n f:=by
 obtain ⟨D,⟨es,clock,h1,h2⟩,h3⟩:=h
 exact ⟨D,⟨es,clock,hk.trans h1,h2⟩,h3⟩
theorem MapIs.made (w:World):MapIs (w.alloc (.map #[] 0)) w.heap.size 0 (fun _=>none) :=
 ⟨.map [],World.ownsMap_made _ _ _ _,fun t=>⟨fun _=>by simp [Maps.has_eq],fun v h=>by cases h⟩⟩
theorem keyL_key (t:ByteArray):WideAt.IsKeyLit (keyL t):=by simp [keyL,WideAt.IsKeyLit]
def setF (f:ByteArray→Option Int) (t:ByteArray) (v:Int):ByteArray→Option Int:=fun u=>if u=t then some v else f u
theorem MapIs.put {W:World} {m n:Nat} {f:ByteArray→Option Int} (h:MapIs W m n f) (hn:n < maxLen) (t:ByteArray) (ht:t.size≤maxLen) (v:Int) (hv:(Lit.int .i64 v).wf=true) :
  ∃ w',(Instr.mapUpdate 56 (.map (some m)) (.string t) (.int .i64 v)).run Tryz.prog W=.ok () w'∧MapIs w' m (n+1) (setF f t v)∧W.grownBy w' (some m):=by
 obtain ⟨D,hown,hf⟩:=h
 obtain ⟨w',hrun,hown',hg⟩:=hown.update (string_keyed Tryz.underlying9) Tryz.underlying56 hn (keyOf_string_mk Tryz.underlying9 ht) (plainElem_int Tryz.underlying3 hv)
 refine ⟨w',hrun,⟨_,hown',fun u=>?_⟩,hg⟩
 have hm:=(hown.tidy (string_keyed Tryz.underlying9)).isMap
 unfold setF
 by_cases e:u=t
 ·subst e
  rw [if_pos rfl]
  refine ⟨fun h=>(by cases h),fun v' h=>?_⟩
  cases h
  exact ⟨Maps.has_put_same hm (keyL_key u) _,Maps.atKey_put_same hm (keyL_key u) _ _⟩
 ·rw [if_neg e]
  refine ⟨fun h=>?_,fun v' h=>⟨?_,?_⟩⟩
  ·exact (Maps.has_put_other (keyL_ne e) _).trans ((hf u).1 h)
  ·exact (Maps.has_put_other (keyL_ne e) _).trans ((hf u).2 v' h).1
  ·exact (Maps.atKey_put_other (keyL_ne e) _ _).trans ((hf u).2 v' h).2
theorem zero_int (w:World):(zeroValue 3).run Tryz.prog w=.ok (.int .i64 0) w:=rfl
theorem MapIs.get {W:World} {m n:Nat} {f:ByteArray→Option Int} (h:MapIs W m n f) (t:ByteArray) (ht:t.size≤maxLen) :
  (Instr.lookup 56 (.map (some m)) (.string t) true).run Tryz.prog W=.ok (.tuple #[.int .i64 ((f t).getD 0),.bool (f t).isSome]) W:=by
 obtain ⟨D,hown,hf⟩:=h
 obtain ⟨v,ps,hrun,hv⟩:=hown.look_ok (string_keyed Tryz.underlying9) Tryz.underlying56 (zero_int W) (plainElem_int Tryz.underlying3 (by decide)) (keyOf_string_mk Tryz.underlying9 ht)
 obtain ⟨c,rfl,hc,_⟩:=plainElem_int_inv Tryz.underlying3 hv
 have hc1:D.atKey (keyL t) (.lit (.int .i64 0))=.lit (.int .i64 c):=congrArg Prod.fst hc
 rw [hrun]
 cases hft:f t with
 | none =>
  have h1:=(hf t).1 hft
  have h2:=Maps.atKey_of_not_has h1 (DataW.lit (.int .i64 0))
  rw [hc1] at h2
  injection h2 with h2
  injection h2 with _ h2
  have h3:Maps.has D (Lit.string t.data.toList)=false:=h1
  rw [h3,h2]
  rfl
 | some v =>
  obtain ⟨h1,h2⟩:=(hf t).2 v hft
  rw [hc1] at h2
  injection h2 with h2
  injection h2 with _ h2
  have h3:Maps.has D (Lit.string t.data.toList)=true:=h1
  rw [h3,h2]
  rfl
inductive Scp (W:World):Nat→Value→EnvN→Prop
 | nil (r:Nat):Scp W r (.pointer none) (fun _=>-1)
 | cons {r b m n:Nat} {f:ByteArray→Option Int} {next:Value} {kn:EnvN}:b < r→W.cell? ⟨b,0,none⟩=some (.map (some m))→W.cell? ⟨b,1,none⟩=some next→MapIs W m n f→Scp W b next kn→Scp W r (.pointer (some ⟨b,0,none⟩)) (fun t=>(f t).getD (kn t))
theorem Scp.mono {W:World} {r r':Nat} {v:Value} {kn:EnvN} (h:Scp W r v kn) (hr:r≤r'):Scp W r' v kn:=by
 cases h with
 | nil=>exact .nil _
 | cons h1 h2 h3 h4 h5=>exact .cons (by omega) h2 h3 h4 h5
end Go.Proofs.YtabbahpalemlhaaGreatDoor
namespace Go.Proofs.YtabbahpalemlhaaGreatDoor
open Go.RowKit
set_option maxRecDepth 20000
theorem cell_hp {W:World} {k:Nat} {cs:Array Value} {t:TypeId} (h:W.heap[k]?=some (.cells cs t (0,0))) (i:Nat):W.cell? ⟨k,i,none⟩=cs[i]?:=by unfold World.cell?;rw [h];rfl
theorem frozen_hp {W:World} {k:Nat} {cs:Array Value} {t:TypeId} (h:W.heap[k]?=some (.cells cs t (0,0))) (i:Nat):W.frozen? ⟨k,i,none⟩=false:=by unfold World.frozen?;rw [h];simp
theorem add_block (a:Addr) (n:Nat):(a.add n).block=a.block:=by unfold Addr.add;split <;> rfl
theorem set_at {W:World} {g i:Nat} {cur:Array Value} {t:TypeId} (v:Value) (h:W.heap[g]?=some (.cells cur t (0,0))):(W.setCell ⟨g,i,none⟩ v).heap[g]?=some (.cells (cur.setIfInBounds i v) t (0,0)):=by
 unfold World.setCell
 simp only [Array.getElem?_modify,h]
 simp
def CodeIn (R:Nat) (w:World) (ad:Option Addr) (n:Nat):Prop:=n=0∨∃ a:Addr,ad=some a∧a.block < R∧∀ i,i < n→∃ x:UInt8,w.cell? (a.add i)=some (.int .u8 x.toNat)
def Rd (R:Nat) (w:World) (p:Nat):Prop:=∃ ad n cap,w.heap[R]?=some (.cells #[.slice ad n cap,.int .i64 p] 45 (0,0))∧n≤2000∧CodeIn R w ad n
theorem Rd.lt {R:Nat} {w:World} {p:Nat} (h:Rd R w p):R < w.heap.size:=by obtain ⟨_,_,_,h,_⟩:=h;exact (Array.getElem?_eq_some_iff.1 h).1
theorem CodeIn.sv {S:Nat→Prop} {R:Nat} {w w':World} {ad:Option Addr} {n:Nat} (h:CodeIn R w ad n) (hs:Sv S w w') (hS:∀ k,S k→R≤k):CodeIn R w' ad n:=by
 rcases h with h | ⟨a,e,h2,h3⟩
 ·exact .inl h
 ·refine .inr ⟨a,e,h2,fun i hi=>?_⟩
  obtain ⟨x,hx⟩:=h3 i hi
  exact ⟨x,(hs.cell (p:=a.add i) (World.block_lt_of_cell? w _ hx) (by rw [add_block];exact fun h=>by have:=hS _ h;omega)).trans hx⟩
theorem Rd.next {R:Nat} {w w':World} {p:Nat} (h:Rd R w p) (hb:Below w.heap.size w w'):Rd R w' p:=by
 have hl:=h.lt
 obtain ⟨ad,n,cap,h1,h2,h3⟩:=h
 exact ⟨ad,n,cap,(hb.block R hl).trans h1,h2,h3.sv (Sv.of_below (S:=fun _=>False) hb) (fun _ h=>h.elim)⟩
theorem Rd.sv {S:Nat→Prop} {R:Nat} {w w':World} {p:Nat} (h:Rd R w p) (hs:Sv S w w') (hS:∀ k,S k→R < k):Rd R w' p:=by
 have hl:=h.lt
 obtain ⟨ad,n,cap,h1,h2,h3⟩:=h
 exact ⟨ad,n,cap,(hs.block R hl (fun h=>by have:=hS R h;omega)).trans h1,h2,h3.sv hs (fun k h=>Nat.le_of_lt (hS k h))⟩
def Drew (R c p:Nat) (w w':World):Prop:=∃ p',p≤p'∧p'≤p+c∧Rd R w' p'∧Sv (fun k=>k=R) w w'
theorem Drew.trans {R c c' p p1:Nat} {w w1 w2:World} (hs:Sv (fun k=>k=R) w w1) (hp:p≤p1) (hp':p1≤p+c) (h:Drew R c' p1 w1 w2):Drew R (c+c') p w w2:=by
 obtain ⟨p2,h1,h2,h3,h4⟩:=h
 exact ⟨p2,by omega,by omega,h3,hs.trans h4⟩
theorem Sv.drewN {S:Nat→Prop} {a w:World} (h:Sv S a w) (n:Nat):Sv S a (w.drewN n):=by
 induction n with
 | zero=>exact h
 | succ n ih=>exact ih.drew
theorem bits_xor_i64_nat (a b:Nat) (ha:a < 4611686018427387904) (hb:b < 4611686018427387904):bits .xor .i64 (a:Int) (b:Int)=((a ^^^ b:Nat):Int)∧a ^^^ b < 4611686018427387904:=by
 have hx:a ^^^ b < 2 ^ 62:=Nat.xor_lt_two_pow (by omega) (by omega)
 have h1:(BitVec.ofInt 64 (a:Int)).toNat=a:=by
  rw [BitVec.ofInt_natCast,BitVec.toNat_ofNat];exact Nat.mod_eq_of_lt (by omega)
 have h2:(BitVec.ofInt 64 (b:Int)).toNat=b:=by
  rw [BitVec.ofInt_natCast,BitVec.toNat_ofNat];exact Nat.mod_eq_of_lt (by omega)
 refine ⟨?_,by omega⟩
 show IntKind.i64.wrap ((BitVec.ofInt 64 (a:Int) ^^^ BitVec.ofInt 64 (b:Int)).toNat:Int)=_
 rw [BitVec.toNat_xor,h1,h2,IntKind.wrap_i64]
 omega
set_option maxHeartbeats 2000000 in
theorem pick_any (R p:Nat) (n:Int) (w:World) (hp:p≤1000000000) (hn:n≤1000000000) (hr:Rd R w p) :
  Calls Tryz.prog 8 #[.pointer (some ⟨R,0,none⟩),.int .i64 n] w fun e w'=>(∃ x:Nat,e=.returned (.int .i64 x)∧(x=0∨(x:Int) < n))∧Rd R w' (p+1)∧Sv (fun k=>k=R) w w':=by
 obtain ⟨ad,m,cap,hh,hm,hc⟩:=hr
 have HC:=hid hc
 have HH:=hid hh
 have x0:w.cell? ⟨R,0,none⟩=some (.slice ad m cap):=cell_hp hh 0
 have x1:w.cell? ⟨R,1,none⟩=some (.int .i64 p):=cell_hp hh 1
 have y1:w.frozen? ⟨R,1,none⟩=false:=frozen_hp hh 1
 have hS:=hid (Sv.setCell (S:=fun k=>k=R) (Sv.refl _ w) (p:=⟨R,1,none⟩) (.inl rfl) (.int .i64 ((p:Int)+1)))
 have HR:Hid (Rd R (w.setCell ⟨R,1,none⟩ (.int .i64 ((p:Int)+1))) (p+1)):=by
  refine ⟨ad,m,cap,?_,hm,hc.sv hS.out (fun _ h=>by omega)⟩
  have:=set_at (i:=1) (.int .i64 ((p:Int)+1)) hh
  simpa using this
 clear hc hh
 by_cases h1:n < 1
 ·go_enter Tryz.func8,Tryz.ntmps8
  go_wp2
  go_ret
  exact ⟨⟨0,rfl,.inl rfl⟩,HR.out,hS.out⟩
 ·by_cases h0:m=0
  ·subst h0
   go_enter Tryz.func8,Tryz.ntmps8
   go_wp2
   go_ret
   exact ⟨⟨0,rfl,.inl rfl⟩,HR.out,hS.out⟩
  ·have hm0:¬ ((m:Int)=0):=by omega
   by_cases hk:p < m
   ·obtain ⟨a,rfl,haR,hb⟩:=HC.out.resolve_left h0
    obtain ⟨x,hx⟩:=hb p hk
    have hx2:=(hS.out.cell (p:=a.add p) (World.block_lt_of_cell? w _ hx) (by rw [add_block];omega)).trans hx
    have hxb:=byte_bd x
    have hx3:w.cell? (a.add p)=some (.int .u8 x.toNat):=hx
    go_enter Tryz.func8,Tryz.ntmps8
    go_wp2
    go_ret
    have hn0:0 < n:=by omega
    have h2:=Int.emod_nonneg (x.toNat:Int) (by omega:n≠0)
    have h3:=Int.emod_lt_of_pos (x.toNat:Int) hn0
    exact ⟨⟨((x.toNat:Int) % n).toNat,ret_int (by omega),.inr (by omega)⟩,HR.out,hS.out⟩
   ·obtain ⟨a,rfl,haR,hb⟩:=HC.out.resolve_left h0
    have hm1:0 < m:=by omega
    obtain ⟨i1,hi1⟩:∃ i1:Nat,p % m=i1:=⟨_,rfl⟩
    obtain ⟨i2,hi2⟩:∃ i2:Nat,(p * 7+3) % m=i2:=⟨_,rfl⟩
    have l1:i1 < m:=by rw [← hi1];exact Nat.mod_lt _ hm1
    have l2:i2 < m:=by rw [← hi2];exact Nat.mod_lt _ hm1
    have e1:(p:Int) % (m:Int)=(i1:Int):=by rw [← hi1];simp
    have e2:((p:Int) * 7+3) % (m:Int)=(i2:Int):=by rw [← hi2];simp
    obtain ⟨x,hx⟩:=hb i1 l1
    obtain ⟨y,hy⟩:=hb i2 l2
    have hx2:=(hS.out.cell (p:=a.add i1) (World.block_lt_of_cell? w _ hx) (by rw [add_block];omega)).trans hx
    have hy2:=(hS.out.cell (p:=a.add i2) (World.block_lt_of_cell? w _ hy) (by rw [add_block];omega)).trans hy
    have hxb:=byte_bd x
    have hyb:=byte_bd y
    obtain ⟨d,hd⟩:∃ d:Nat,p / m=d:=⟨_,rfl⟩
    have ed:(p:Int) / (m:Int)=(d:Int):=by rw [← hd];simp
    have hdb:d≤1000000000:=by rw [← hd];exact Nat.le_trans (Nat.div_le_self _ _) hp
    have x0':(w.setCell ⟨R,1,none⟩ (.int .i64 ((p:Int)+1))).cell? ⟨R,0,none⟩=some (.slice (some a) m cap):=by
     have:=set_at (i:=1) (.int .i64 ((p:Int)+1)) HH.out
     exact (cell_hp this 0).trans rfl
    clear hi1 hi2 hd hb hx hy
    go_enter Tryz.func8,Tryz.ntmps8
    go_wp2_with fail
    go_quiet (fail)
    obtain ⟨z,hz,hz2⟩:∃ z:Nat,(x.toNat:Int) * 131+(y.toNat:Int) * 1117+(p:Int) * 29+(d:Int) * 53=(z:Int)∧z≤1000000000000:=⟨x.toNat * 131+y.toNat * 1117+p * 29+d * 53,by omega,by omega⟩
    rw [hz]
    obtain ⟨u,hu,hu2⟩:∃ u:Nat,(z:Int) / 64=(u:Int)∧u≤1000000000000:=⟨z / 64,by omega,by omega⟩
    obtain ⟨q,hq,hq2⟩:∃ q:Nat,bits .xor .i64 (z:Int) (u:Int)=(q:Int)∧q < 4611686018427387904:=⟨z ^^^ u,bits_xor_i64_nat z u (by omega) (by omega)⟩
    clear hz e1 e2 ed
    go_wp2
    go_ret
    have hn0:0 < n:=by omega
    have h2:=Int.emod_nonneg (q:Int) (by omega:n≠0)
    have h3:=Int.emod_lt_of_pos (q:Int) hn0
    exact ⟨⟨((q:Int) % n).toNat,ret_int (by omega),.inr (by omega)⟩,HR.out.sv (S:=fun _=>False) (by exact Sv.drewN (Sv.refl _ _) nq) (fun _ h=>h.elim),hS.out.drewN nq⟩
set_option maxHeartbeats 2000000 in
theorem l1Many_any (s:ByteArray) (n:Nat) (w:World) (h:s.size * n≤2000) (hn:n≤2000) (hs:s.size≤2000) :
  Calls Tryz.prog 10 #[.string s,.int .i64 n] w fun e w'=>(∃ t:ByteArray,e=.returned (.string t)∧t.size≤2000)∧w'=w:=by
 go_enter Tryz.func10,Tryz.ntmps10
 go_wp2
 go_loopw [0,1,5] (fun a b c wr=>∃ (s o:ByteArray) (k:Nat),a=.string s∧b=.int .i64 k∧c=.string o∧o.size+s.size * k≤2000∧k≤2000∧s.size≤4000∧wr=w) (fun _ b _ _=>(intOf b).toNat)
 case atStart=>exact ⟨s,⟨#[]⟩,n,rfl,rfl,rfl,by show 0+s.size * n≤2000;omega,hn,by omega,rfl⟩
 case round =>
  obtain ⟨s,o,k,rfl,rfl,rfl,h1,h2,h3,rfl⟩:=hrel
  by_cases hk:0 < k
  ·have hk2:s.size≤s.size * k:=Nat.le_mul_of_pos_right _ hk
   have hd:k=2 * (k / 2)+k % 2:=(Nat.div_add_mod k 2).symm
   have hq:(k:Int) / 2=((k / 2:Nat):Int):=by omega
   have hr:(k:Int) % 2=((k % 2:Nat):Int):=by omega
   have he:s.size * k=s.size * 2 * (k / 2)+s.size * (k % 2):=by
    conv=>lhs;rw [hd]
    rw [Nat.mul_add,Nat.mul_assoc]
   obtain ⟨m,hm⟩:∃ m,k / 2=m:=⟨_,rfl⟩
   rw [hm] at hq he
   rcases Nat.mod_two_eq_zero_or_one k with hz | hz
   ·rw [hz] at hr he
    have HX:=hid (show o.size+(s.size+s.size) * m≤2000∧m < k from ⟨by rw [Nat.mul_zero,Nat.add_zero] at he;rw [← Nat.mul_two];omega,by omega⟩)
    clear he hd
    go_wp2
    go_roundw
    case rel=>exact ⟨s ++ s,o,m,rfl,by go_num,rfl,by rw [ByteArray.size_append];exact HX.out.1,by have:=HX.out.2;omega,by rw [ByteArray.size_append];omega,by trivial⟩
    case measure=>have:=HX.out.2;simp [intOf];omega
   ·rw [hz] at hr he
    have HX:=hid (show o.size+s.size+(s.size+s.size) * m≤2000∧m < k from ⟨by rw [Nat.mul_one] at he;rw [← Nat.mul_two];omega,by omega⟩)
    clear he hd
    go_wp2
    go_roundw
    case rel=>exact ⟨s ++ s,o ++ s,m,rfl,by go_num,rfl,by rw [ByteArray.size_append,ByteArray.size_append];exact HX.out.1,by have:=HX.out.2;omega,by rw [ByteArray.size_append];omega,by trivial⟩
    case measure=>have:=HX.out.2;simp [intOf];omega
  ·go_wp2
   go_ret
   exact ⟨⟨o,rfl,by omega⟩,rfl⟩
theorem Drew.one {R p:Nat} {w w':World} (h:Rd R w' (p+1)) (hs:Sv (fun k=>k=R) w w'):Drew R 1 p w w':=⟨p+1,by omega,by omega,h,hs⟩
theorem Drew.mono {R c c' p:Nat} {w w':World} (h:Drew R c p w w') (hc:c≤c'):Drew R c' p w w':=by
 obtain ⟨p',h1,h2,h3⟩:=h
 exact ⟨p',h1,by omega,h3⟩
set_option maxHeartbeats 2000000 in
theorem l1DrawText_any (R p:Nat) (w:World) (hp:p≤900000000) (hr:Rd R w p) :
  Calls Tryz.prog 22 #[.pointer (some ⟨R,0,none⟩)] w fun e w'=>(∃ t:ByteArray,e=.returned (.string t)∧t.size≤10)∧Drew R 10 p w w':=by
 have HR:=hid hr
 clear hr
 go_enter Tryz.func22,Tryz.ntmps22
 go_wp2_with fail
 refine (pick_any R p 10 _ (by omega) (by omega) HR.out).mono ?_
 rintro e w1 ⟨⟨x,rfl,hx⟩,hr1,hs1⟩
 have HR1:=hid hr1
 have HS1:=hid hs1
 have HD1:=hid (Drew.mono (Drew.one hr1 hs1) (show 1≤10 by omega))
 clear hr1 hs1
 go_wp2_with fail
 ·go_ret
  exact ⟨⟨_,rfl,by decide⟩,HD1.out⟩
 ·go_ret
  exact ⟨⟨_,rfl,by decide⟩,HD1.out⟩
 ·go_ret
  exact ⟨⟨_,rfl,by decide⟩,HD1.out⟩
 ·go_ret
  exact ⟨⟨_,rfl,by decide⟩,HD1.out⟩
 ·go_ret
  exact ⟨⟨_,rfl,by decide⟩,HD1.out⟩
 ·refine (pick_any R (p+1) 4 _ (by omega) (by omega) HR1.out).mono ?_
  rintro e w2 ⟨⟨y,rfl,hy⟩,hr2,hs2⟩
  have HR2:=hid hr2
  have HS2:=hid (HS1.out.trans hs2)
  clear hr2 hs2
  have hy3:y≤3:=by omega
  go_wp2_with fail
  go_loopw [3,4] (fun a b wr=>∃ (o:ByteArray) (k:Int) (q:Nat),a=.string o∧b=.int .i64 k∧-1≤k∧k≤3∧(o.size:Int)+k≤3∧p≤q∧(q:Int)+k≤p+5∧Rd R wr q∧Sv (fun k=>k=R) w wr) (fun _ b _=>(intOf b+1).toNat)
  case atStart=>exact ⟨⟨#[]⟩,y,p+1+1,rfl,rfl,by omega,by omega,by show ((0:Nat):Int)+y≤3;omega,by omega,by omega,HR2.out,HS2.out⟩
  case round =>
   obtain ⟨o,k,q,rfl,rfl,k1,k2,k3,q1,q2,hrq,hsq⟩:=hrel
   have HRQ:=hid hrq
   have HSQ:=hid hsq
   clear hrq hsq
   by_cases hk:0≤k
   ·go_wp2_with fail
    refine (pick_any R q 4 _ (by omega) (by omega) HRQ.out).mono ?_
    rintro e w3 ⟨⟨z,rfl,hz⟩,hr3,hs3⟩
    have HR3:=hid hr3
    have HS3:=hid (HSQ.out.trans hs3)
    clear hr3 hs3
    obtain rfl | rfl | rfl | rfl:z=0∨z=1∨z=2∨z=3:=by omega
    all_goals
     go_wp2
     go_roundw
     case rel=>exact ⟨_,k - 1,q+1,rfl,by go_num,by omega,by omega,by rw [ByteArray.size_append];simp;omega,by omega,by omega,HR3.out,HS3.out⟩
     case measure=>simp [intOf];omega
   ·go_wp2
    go_ret
    exact ⟨⟨o,rfl,by omega⟩,q,by omega,by omega,HRQ.out,HSQ.out⟩
theorem Says.of {e:Ending} {P Q:Prop} (h:Says e P) (hq:P ↔ Q):Says e Q:=by
 obtain ⟨b,h1,h2⟩:=h
 exact ⟨b,h1,h2.trans hq⟩
theorem highs_le (o:List (List Nat)):∀ x,(highs o).getD x 0≤o.length:=by
 have up:∀ (l:List Nat) (b:Nat),(∀ x ∈ l,x≤b)→upK l≤b+1:=by
  intro l b h
  have:∀ n,∀ l:List Nat,l.length=n→(∀ x ∈ l,x≤b)→upK l≤b+1:=by
   intro n
   induction n with
   | zero=>intro l h _;rw [List.length_eq_zero_iff.1 h];simp [upK]
   | succ n ih =>
    intro l h hx
    obtain ⟨l',y,rfl⟩:=(List.eq_nil_or_concat l).resolve_left (by rintro rfl;cases h)
    rw [List.concat_eq_append] at h hx ⊢
    rw [upK_snoc]
    have h1:=ih l' (by simp at h;exact h) (fun x hm=>hx x (by simp [hm]))
    have h2:=hx y (by simp)
    omega
  exact this _ l rfl h
 have:∀ n,∀ o:List (List Nat),o.length=n→∀ x,(highs o).getD x 0≤o.length:=by
  intro n
  induction n with
  | zero=>intro o h x;rw [List.length_eq_zero_iff.1 h];simp [highs]
  | succ n ih =>
   intro o h x
   obtain ⟨o',ks,rfl⟩:=(List.eq_nil_or_concat o).resolve_left (by rintro rfl;cases h)
   rw [List.concat_eq_append] at h ⊢
   have hn:o'.length=n:=by simp at h;exact h
   have hi:=ih o' hn
   rw [highs_snoc,List.length_append]
   have hu:=up (kidHighs (highs o') ks) o'.length (fun y hy=>by
    obtain ⟨k,_,rfl⟩:=List.mem_map.1 hy
    exact hi k)
   by_cases e:x < (highs o').length
   ·rw [List.getD_eq_getElem?_getD,List.getElem?_append_left e,← List.getD_eq_getElem?_getD]
    exact Nat.le_trans (hi x) (Nat.le_add_right _ _)
   ·rw [List.getD_eq_getElem?_getD,List.getElem?_append_right (by omega)]
    rcases Nat.eq_zero_or_pos (x - (highs o').length) with h0 | h0
    ·rw [h0];simpa using hu
    ·rw [List.getElem?_eq_none (by simp;omega)];simp
 exact this _ o rfl
theorem step_append_own_at {P:Program} {ops:Array Oper} {o:Oper} {a:Act} {w:World} {K:Act→World→Prop} {Q:Exit→Act→World→Prop} {E:Prop} (hg:o.guard=none) (s x:Operand) (t:TypeId)
  (hop:o.op=Op.call { callee:=Callee.builtin Builtin.append,args:=#[s,x],argTypes:=#[t,t] })
  (base:Nat) (e:TypeId) (i:TypeInfo) (z:Value) (size bytes:Nat) (ht:P.underlying t=some (.slice e)) (hi:P.info? e=some i) (hz:i.zero=some z)
  (hsize:i.size=size) (hby:i.bytes=bytes) (hzs:z.cells.size=size) (hsz:0 < size)
  (v:Value) (n:Nat) (xs:List Value) (hs:a.eval s=v) (hown:w.ownsRow base e size v n xs)
  (ad:Addr) (m c:Nat) (news:List Value) (hx:a.eval x=.slice (some ad) m c) (hl:news.length=m * size) (hnews:∀ j u,news[j]?=some u→w.cell? (ad.add j)=some u) (h1:∀ u ∈ news,u.oneCell'=true)
  (h63:n+m≤maxLen) (hbytes:(n+m) * bytes≤140737488355328) (hbase:base≤w.heap.size)
  (h:∀ v' w',w'.ownsRow base e size v' (n+m) (xs ++ news)→w.grownBy w' v.ownBlock→(v'=.slice none 0 0 ↔ v=.slice none 0 0∧m=0)→(v'.ownBlock=v.ownBlock∨v'.ownBlock=some w.heap.size)→K (a.put o.dst v') w') :
  if Region.wanted o (yielded ops a.tmps)=true then Oper.wp P o a w K Q else E:=by
 have hw:Region.wanted o (yielded ops a.tmps)=true:=by simp [Region.wanted,hg]
 rw [if_pos hw]
 obtain ⟨v',w',hr,h2,h3,h4,h5⟩:=run_append_own_at (P:=P) w base t o.type e i z size bytes ht hi hz hsize hby hzs hsz v n xs hown ad m c news hl hnews h1 h63 hbytes hbase
 unfold Oper.wp
 simp [execOp,hop,resolve,invoke,builtin,hs,hx,hr,Result.andThen]
 exact h v' w' h2 h3 h4 h5
end Go.Proofs.YtabbahpalemlhaaGreatDoor
