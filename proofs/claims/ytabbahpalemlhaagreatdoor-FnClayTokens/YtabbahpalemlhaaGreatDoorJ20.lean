import Derived.Test.YtabbahpalemlhaaGreatDoorJ04
namespace Go.Proofs.YtabbahpalemlhaaGreatDoor
open Go.RowKit
set_option maxRecDepth 20000
set_option maxHeartbeats 1000000 in
theorem KO_15:KO 15:=by
 intro b N cap g o m c nd ks w hm hb hg hn hk
 have HN:=hid hn
 have HK:=hid hk
 clear hn hk
 go_enter Tryz.func52,Tryz.ntmps52
 go_wp2
 go_loopw [8,10] (fun es i wr=>∃ j e:Nat,j≤m∧e≤j∧i=.int .i64 j∧es=.int .i64 e∧(e=j ↔ AllE j (fun i=>nd (ks i)))∧Below (w.heap.size+1) (w.alloc (.cells #[.slice (some ⟨b,0,none⟩) N cap] 50)) wr) (fun _ i _=>m - (intOf i).toNat)
 case atStart=>exact ⟨0,0,Nat.zero_le _,Nat.zero_le _,rfl,rfl,⟨fun _ i h=>absurd h (Nat.not_lt_zero _),fun _=>rfl⟩,Below.refl _ _⟩
 case round =>
  obtain ⟨j,e,hj,he,rfl,rfl,hall,hbw⟩:=hrel
  have HALL:=hid hall
  have HBW:=hid hbw
  clear hall hbw
  by_cases hlt:j < m
  ·have t0:=tree_cell HBW.out
   obtain ⟨a0,a1⟩:=(HK.out.below (btree HBW.out) hg) j hlt
   obtain ⟨a2,_⟩:=(HN.out.below (btree HBW.out) hb) (ks j) a1
   have HS:=hid (AllE_step HALL.out he)
   cases hE:isE (nd (ks j)).kind
   ·have NX:=hid (HS.out.2 hE)
    clear HS
    go_wp2
    go_region_with (go_at_call 70;refine (l2E_any _ _).mono ?_;rintro e w' ⟨rfl,hw⟩;have hw2:=hw.symm;clear hw;subst hw2)
    all_goals go_wp2
    all_goals
     go_roundw
     case rel=>exact ⟨j+1,e,by omega,by omega,by go_num,rfl,NX.out,HBW.out.drew⟩
     case measure=>simp [intOf];omega
   ·have NX:=hid (HS.out.1 hE)
    clear HS
    go_wp2
    go_region_with (go_at_call 70;refine (l2E_any _ _).mono ?_;rintro e w' ⟨rfl,hw⟩;have hw2:=hw.symm;clear hw;subst hw2)
    all_goals go_wp2
    all_goals
     go_roundw
     case rel=>exact ⟨j+1,e+1,by omega,by omega,by go_num,by go_num,NX.out,HBW.out.drew⟩
     case measure=>simp [intOf];omega
  ·obtain rfl:j=m:=by omega
   go_wp2
   go_loopw [13] (fun i wr=>∃ q:Nat,q≤j∧i=.int .i64 q∧(∀ i,i < q→(nd (ks i)).kind=19)∧Below (w.heap.size+1) (w.alloc (.cells #[.slice (some ⟨b,0,none⟩) N cap] 50)) wr) (fun i _=>j - (intOf i).toNat)
   case atStart=>exact ⟨0,Nat.zero_le _,rfl,fun i h=>absurd h (Nat.not_lt_zero _),HBW.out⟩
   case round =>
    rename_i wo wr
    obtain ⟨q,hq,rfl,hin,hbw⟩:=hrel
    have HQ:=hid hin
    have HB2:=hid hbw
    clear hin hbw
    by_cases hl2:q+1 < j
    ·have t0:=tree_cell HB2.out
     obtain ⟨a0,a1⟩:=(HK.out.below (btree HB2.out) hg) q (by omega)
     obtain ⟨a2,_⟩:=(HN.out.below (btree HB2.out) hb) (ks q) a1
     cases hE:((nd (ks q)).kind != 19)
     ·have HF:=hid (show (nd (ks q)).kind=19 by simpa using hE)
      go_wp2
      try go_region
      all_goals go_wp2
      all_goals
       go_roundw
       case rel=>exact ⟨q+1,by omega,by go_num,all_step HQ.out HF.out,by first | exact HB2.out | exact HB2.out.drew⟩
       case measure=>simp [intOf];omega
     ·have HF:=hid (show ¬ (nd (ks q)).kind=19 by simpa using hE)
      go_wp2
      try go_region
      all_goals go_wp2
      all_goals go_ret
      all_goals exact ⟨says_f (fun h=>HF.out (((KidsOk_15 _ _).1 h).2.2.1 q (by omega))),by first | exact btree HB2.out | exact (btree HB2.out).drew⟩
    ·by_cases h0:j=0
     ·subst h0
      go_wp2_with fail
      go_quiet (fail)
      go_wp2
      go_ret
      exact ⟨says_f (fun h=>by have:=((KidsOk_15 _ _).1 h).1;omega),below_drewN (btree HB2.out) nq⟩
     ·obtain ⟨p,rfl⟩:∃ p,j=p+1:=⟨j - 1,by omega⟩
      have HR:=hid (show ∀ i,i+1 < p+1→(nd (ks i)).kind=19 from fun i hi=>HQ.out i (by omega))
      have t0:=tree_cell HB2.out
      have hp0:(0:Int)≤p:=by omega
      have hp1:(1:Int)≤p+1:=by omega
      obtain ⟨a0,a1⟩:=(HK.out.below (btree HB2.out) hg) p (by omega)
      obtain ⟨a2,_⟩:=(HN.out.below (btree HB2.out) hb) (ks p) a1
      cases hE:isE (nd (ks p)).kind
      ·have HE:=hid hE
       go_wp2_with fail
       go_quiet ((go_at_call 70;exact Calls.quiet_of_same (l2E_any _ _)))
       all_goals go_wp2
       all_goals go_ret
       all_goals exact ⟨says_f (fun h=>by have:=((KidsOk_15 _ _).1 h).2.2.2;rw [Nat.add_sub_cancel,HE.out] at this;cases this),below_drewN (btree HB2.out) nq⟩
      ·have HE:=hid hE
       go_wp2_with fail
       go_quiet ((go_at_call 70;exact Calls.quiet_of_same (l2E_any _ _)))
       all_goals go_wp2
       all_goals go_ret
       all_goals refine ⟨⟨_,rfl,?_⟩,below_drewN (btree HB2.out) nq⟩
       all_goals rw [KidsOk_15]
       all_goals simp
       all_goals exact ⟨fun h=>⟨by omega,fun i hi=>HR.out i (by omega),HE.out⟩,fun h=>by have:=h.1;omega⟩
set_option maxHeartbeats 1000000 in
theorem KO_20:KO 20:=by
 intro b N cap g o m c nd ks w hm hb hg hn hk
 have HN:=hid hn
 have HK:=hid hk
 clear hn hk
 go_enter Tryz.func52,Tryz.ntmps52
 go_wp2
 go_loopw [8,10] (fun es i wr=>∃ j e:Nat,j≤m∧e≤j∧i=.int .i64 j∧es=.int .i64 e∧(e=j ↔ AllE j (fun i=>nd (ks i)))∧Below (w.heap.size+1) (w.alloc (.cells #[.slice (some ⟨b,0,none⟩) N cap] 50)) wr) (fun _ i _=>m - (intOf i).toNat)
 case atStart=>exact ⟨0,0,Nat.zero_le _,Nat.zero_le _,rfl,rfl,⟨fun _ i h=>absurd h (Nat.not_lt_zero _),fun _=>rfl⟩,Below.refl _ _⟩
 case round =>
  obtain ⟨j,e,hj,he,rfl,rfl,hall,hbw⟩:=hrel
  have HALL:=hid hall
  have HBW:=hid hbw
  clear hall hbw
  by_cases hlt:j < m
  ·have t0:=tree_cell HBW.out
   obtain ⟨a0,a1⟩:=(HK.out.below (btree HBW.out) hg) j hlt
   obtain ⟨a2,_⟩:=(HN.out.below (btree HBW.out) hb) (ks j) a1
   have HS:=hid (AllE_step HALL.out he)
   cases hE:isE (nd (ks j)).kind
   ·have NX:=hid (HS.out.2 hE)
    clear HS
    go_wp2
    go_region_with (go_at_call 70;refine (l2E_any _ _).mono ?_;rintro e w' ⟨rfl,hw⟩;have hw2:=hw.symm;clear hw;subst hw2)
    all_goals go_wp2
    all_goals
     go_roundw
     case rel=>exact ⟨j+1,e,by omega,by omega,by go_num,rfl,NX.out,HBW.out.drew⟩
     case measure=>simp [intOf];omega
   ·have NX:=hid (HS.out.1 hE)
    clear HS
    go_wp2
    go_region_with (go_at_call 70;refine (l2E_any _ _).mono ?_;rintro e w' ⟨rfl,hw⟩;have hw2:=hw.symm;clear hw;subst hw2)
    all_goals go_wp2
    all_goals
     go_roundw
     case rel=>exact ⟨j+1,e+1,by omega,by omega,by go_num,by go_num,NX.out,HBW.out.drew⟩
     case measure=>simp [intOf];omega
  ·obtain rfl:j=m:=by omega
   go_wp2
   go_loopw [13] (fun i wr=>∃ q:Nat,q≤j∧i=.int .i64 q∧(∀ i,i < q→(nd (ks i)).kind=19)∧Below (w.heap.size+1) (w.alloc (.cells #[.slice (some ⟨b,0,none⟩) N cap] 50)) wr) (fun i _=>j - (intOf i).toNat)
   case atStart=>exact ⟨0,Nat.zero_le _,rfl,fun i h=>absurd h (Nat.not_lt_zero _),HBW.out⟩
   case round =>
    rename_i wo wr
    obtain ⟨q,hq,rfl,hin,hbw⟩:=hrel
    have HQ:=hid hin
    have HB2:=hid hbw
    clear hin hbw
    by_cases hl2:q+1 < j
    ·have t0:=tree_cell HB2.out
     obtain ⟨a0,a1⟩:=(HK.out.below (btree HB2.out) hg) q (by omega)
     obtain ⟨a2,_⟩:=(HN.out.below (btree HB2.out) hb) (ks q) a1
     cases hE:((nd (ks q)).kind != 19)
     ·have HF:=hid (show (nd (ks q)).kind=19 by simpa using hE)
      go_wp2
      try go_region
      all_goals go_wp2
      all_goals
       go_roundw
       case rel=>exact ⟨q+1,by omega,by go_num,all_step HQ.out HF.out,by first | exact HB2.out | exact HB2.out.drew⟩
       case measure=>simp [intOf];omega
     ·have HF:=hid (show ¬ (nd (ks q)).kind=19 by simpa using hE)
      go_wp2
      try go_region
      all_goals go_wp2
      all_goals go_ret
      all_goals exact ⟨says_f (fun h=>HF.out (((KidsOk_20 _ _).1 h).2.2.1 q (by omega))),by first | exact btree HB2.out | exact (btree HB2.out).drew⟩
    ·by_cases h0:j=0
     ·subst h0
      go_wp2_with fail
      go_quiet (fail)
      go_wp2
      go_ret
      exact ⟨says_f (fun h=>by have:=((KidsOk_20 _ _).1 h).1;omega),below_drewN (btree HB2.out) nq⟩
     ·obtain ⟨p,rfl⟩:∃ p,j=p+1:=⟨j - 1,by omega⟩
      have HR:=hid (show ∀ i,i+1 < p+1→(nd (ks i)).kind=19 from fun i hi=>HQ.out i (by omega))
      have t0:=tree_cell HB2.out
      have hp0:(0:Int)≤p:=by omega
      have hp1:(1:Int)≤p+1:=by omega
      obtain ⟨a0,a1⟩:=(HK.out.below (btree HB2.out) hg) p (by omega)
      obtain ⟨a2,_⟩:=(HN.out.below (btree HB2.out) hb) (ks p) a1
      cases hE:isE (nd (ks p)).kind
      ·have HE:=hid hE
       go_wp2_with fail
       go_quiet ((go_at_call 70;exact Calls.quiet_of_same (l2E_any _ _)))
       all_goals go_wp2
       all_goals go_ret
       all_goals exact ⟨says_f (fun h=>by have:=((KidsOk_20 _ _).1 h).2.2.2;rw [Nat.add_sub_cancel,HE.out] at this;cases this),below_drewN (btree HB2.out) nq⟩
      ·have HE:=hid hE
       go_wp2_with fail
       go_quiet ((go_at_call 70;exact Calls.quiet_of_same (l2E_any _ _)))
       all_goals go_wp2
       all_goals go_ret
       all_goals refine ⟨⟨_,rfl,?_⟩,below_drewN (btree HB2.out) nq⟩
       all_goals rw [KidsOk_20]
       all_goals simp
       all_goals exact ⟨fun h=>⟨by omega,fun i hi=>HR.out i (by omega),HE.out⟩,fun h=>by have:=h.1;omega⟩
end Go.Proofs.YtabbahpalemlhaaGreatDoor
