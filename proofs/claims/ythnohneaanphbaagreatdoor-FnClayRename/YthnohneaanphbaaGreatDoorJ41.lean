import Derived.Deep.DeepCutAuto
import Derived.Deep.OwnRows
import Derived.Deep.RegionHeld3
import Derived.Test.YthnohneaanphbaaGreatDoorJ39
import Derived.Test.YthnohneaanphbaaGreatDoorJ40
import Derived.Test.YthnohneaanphbaaGreatDoorJ35
import Derived.Test.YthnohneaanphbaaGreatDoorJ25
namespace Go.Proofs.YthnohneaanphbaaGreatDoor
open Go.RowKit
set_option maxRecDepth 20000
set_option maxHeartbeats 8000000 in
theorem params_at {s:Ds} {ov0:Value} {w0:World} {p n:Nat} {bad:Bool} {w:World} (hE:∀ q,p≤q→EOk9 s q) (h:Ad s ov0 w0 p bad n w) (hl:n+2 * s.T≤400000+2 * p) :
  Calls Tryz.prog 83 #[.pointer (some ⟨s.D,0,none⟩)] w (DI9 s ov0 w0 p n):=by
 have HA0:=hid h
 have hT:=h.pT.2
 clear h
 go_enter Tryz.func83,Tryz.ntmps83
 go_wp2_with fail
 refine (need_at HA0.out _).mono ?_
 rintro e w1 ⟨rfl,p1,b1,l1a,l1b,a1⟩
 have HA1:=hid a1
 clear a1 HA0
 go_wp2
 go_loopw [3] (fun c3 wr=>∃ m q k:Nat,∃ bb:Bool,c3=.int .i64 m∧p1≤q∧n≤k∧k+2 * p1≤n+2 * q∧m≤q - p1∧Ad s ov0 w0 q bb k wr) (fun _ wr=>s.T - deskP s wr)
 case atStart=>exact ⟨0,p1,n,_,rfl,by omega,by omega,by omega,by omega,HA1.out⟩
 case round =>
  obtain ⟨m,q,k,bb,rfl,lq,lk,lkq,lm,ad⟩:=hrel
  have HAr:=hid ad
  have HDP:=hid ad.deskP
  have hqT:=ad.pT.1
  clear ad HA1
  obtain ⟨_,_,c3,_⟩:=HAr.out.cells
  cases bb
  ·rcases Nat.eq_zero_or_pos m with rfl | hm1
   ·go_wp2_with fail
    refine (is_at HAr.out _).mono ?_
    rintro e w2 (⟨rfl,l2,a2⟩ | ⟨rfl,a2⟩)
    ·have HA2:=hid a2
     clear a2 HAr
     go_wp2_with fail
     refine (need_at HA2.out _).mono ?_
     rintro e w3 ⟨rfl,p3,b3,l3a,l3b,a3⟩
     have HA3:=hid a3
     clear a3 HA2
     go_wp2
     go_ret
     exact ⟨0,p3,b3,k,rfl,by omega,by omega,by omega,by omega,HA3.out⟩
    ·have HA2:=hid a2
     clear a2 HAr
     go_wp2_with fail
     refine (name_at9 HA2.out).mono ?_
     rintro e w4 ⟨t4,p4,b4,rfl,x4,l4a,l4b,l4c,a4⟩
     have HA4:=hid a4
     have HX4:=hid x4
     have HC4:=hid l4c
     clear a4 HA2 l4c x4
     go_wp2_with fail
     refine (take_at HA4.out _).mono ?_
     rintro e w5 (⟨rfl,l5,a5⟩ | ⟨rfl,a5⟩)
     ·have HA5:=hid a5
      clear a5 HA4
      go_wp2_with fail
      refine (hE (p4+1) (by omega) _ _ _ _ _ HA5.out (by have:=HA5.out.pT;omega)).mono ?_
      rintro e w6 ⟨rfl,p6,b6,n6,l6a,l6b,l6c,a6⟩
      have HA6:=hid a6
      clear a6 HA5
      go_wp2_with fail
      refine (put_at9 HA6.out ⟨19,0,0,t4,1⟩ (HX4.out) (by have:=HA6.out.pT;omega)).mono ?_
      rintro e w7 ⟨rfl,a7⟩
      have HA7:=hid a7
      clear a7 HA6
      go_wp2_with fail
      refine (take_at HA7.out _).mono ?_
      rintro e w8 (⟨rfl,l8,a8⟩ | ⟨rfl,a8⟩)
      ·have HA8:=hid a8
       clear a8 HA7
       go_wp2
       go_roundw
       case rel=>exact ⟨0+1,(p6+1),(n6+1),false,by go_num,by omega,by omega,by omega,by omega,HA8.out⟩
       case measure=>rw [HA8.out.deskP,HDP.out];have:=HA8.out.pT;omega
      ·have HA8:=hid a8
       clear a8 HA7
       go_wp2_with fail
       refine (need_at HA8.out _).mono ?_
       rintro e w9 ⟨rfl,p9,b9,l9a,l9b,a9⟩
       have HA9:=hid a9
       clear a9 HA8
       go_wp2
       go_ret
       exact ⟨(0+1),p9,b9,(n6+1),rfl,by omega,by omega,by omega,by omega,HA9.out⟩
     ·have HA5:=hid a5
      clear a5 HA4
      go_wp2_with fail
      refine (put_at9 HA5.out ⟨19,0,0,t4,0⟩ (HX4.out) (by have:=HA5.out.pT;omega)).mono ?_
      rintro e w10 ⟨rfl,a10⟩
      have HA10:=hid a10
      clear a10 HA5
      go_wp2_with fail
      refine (take_at HA10.out _).mono ?_
      rintro e w11 (⟨rfl,l11,a11⟩ | ⟨rfl,a11⟩)
      ·have HA11:=hid a11
       clear a11 HA10
       go_wp2
       go_roundw
       case rel=>exact ⟨0+1,(p4+1),(k+1),false,by go_num,by omega,by omega,by omega,by omega,HA11.out⟩
       case measure=>rw [HA11.out.deskP,HDP.out];have:=HA11.out.pT;omega
      ·have HA11:=hid a11
       clear a11 HA10
       go_wp2_with fail
       refine (need_at HA11.out _).mono ?_
       rintro e w12 ⟨rfl,p12,b12,l12a,l12b,a12⟩
       have HA12:=hid a12
       clear a12 HA11
       go_wp2
       go_ret
       exact ⟨(0+1),p12,b12,(k+1),rfl,by omega,by omega,by omega,by omega,HA12.out⟩
   ·have hm2:(0:Int) < (m:Int):=by omega
    go_wp2_with fail
    refine (name_at9 HAr.out).mono ?_
    rintro e w13 ⟨t13,p13,b13,rfl,x13,l13a,l13b,l13c,a13⟩
    have HA13:=hid a13
    have HX13:=hid x13
    have HC13:=hid l13c
    clear a13 HAr l13c x13
    go_wp2_with fail
    refine (take_at HA13.out _).mono ?_
    rintro e w14 (⟨rfl,l14,a14⟩ | ⟨rfl,a14⟩)
    ·have HA14:=hid a14
     clear a14 HA13
     go_wp2_with fail
     refine (hE (p13+1) (by omega) _ _ _ _ _ HA14.out (by have:=HA14.out.pT;omega)).mono ?_
     rintro e w15 ⟨rfl,p15,b15,n15,l15a,l15b,l15c,a15⟩
     have HA15:=hid a15
     clear a15 HA14
     go_wp2_with fail
     refine (put_at9 HA15.out ⟨19,0,0,t13,1⟩ (HX13.out) (by have:=HA15.out.pT;omega)).mono ?_
     rintro e w16 ⟨rfl,a16⟩
     have HA16:=hid a16
     clear a16 HA15
     go_wp2_with fail
     refine (take_at HA16.out _).mono ?_
     rintro e w17 (⟨rfl,l17,a17⟩ | ⟨rfl,a17⟩)
     ·have HA17:=hid a17
      clear a17 HA16
      go_wp2
      go_roundw
      case rel=>exact ⟨m+1,(p15+1),(n15+1),false,by go_num,by omega,by omega,by omega,by omega,HA17.out⟩
      case measure=>rw [HA17.out.deskP,HDP.out];have:=HA17.out.pT;omega
     ·have HA17:=hid a17
      clear a17 HA16
      go_wp2_with fail
      refine (need_at HA17.out _).mono ?_
      rintro e w18 ⟨rfl,p18,b18,l18a,l18b,a18⟩
      have HA18:=hid a18
      clear a18 HA17
      go_wp2
      go_ret
      exact ⟨(m+1),p18,b18,(n15+1),rfl,by omega,by omega,by omega,by omega,HA18.out⟩
    ·have HA14:=hid a14
     clear a14 HA13
     go_wp2_with fail
     refine (put_at9 HA14.out ⟨19,0,0,t13,0⟩ (HX13.out) (by have:=HA14.out.pT;omega)).mono ?_
     rintro e w19 ⟨rfl,a19⟩
     have HA19:=hid a19
     clear a19 HA14
     go_wp2_with fail
     refine (take_at HA19.out _).mono ?_
     rintro e w20 (⟨rfl,l20,a20⟩ | ⟨rfl,a20⟩)
     ·have HA20:=hid a20
      clear a20 HA19
      go_wp2
      go_roundw
      case rel=>exact ⟨m+1,(p13+1),(k+1),false,by go_num,by omega,by omega,by omega,by omega,HA20.out⟩
      case measure=>rw [HA20.out.deskP,HDP.out];have:=HA20.out.pT;omega
     ·have HA20:=hid a20
      clear a20 HA19
      go_wp2_with fail
      refine (need_at HA20.out _).mono ?_
      rintro e w21 ⟨rfl,p21,b21,l21a,l21b,a21⟩
      have HA21:=hid a21
      clear a21 HA20
      go_wp2
      go_ret
      exact ⟨(m+1),p21,b21,(k+1),rfl,by omega,by omega,by omega,by omega,HA21.out⟩
  ·skip
   go_wp2_with fail
   refine (need_at HAr.out _).mono ?_
   rintro e w22 ⟨rfl,p22,b22,l22a,l22b,a22⟩
   have HA22:=hid a22
   clear a22 HAr
   go_wp2
   go_ret
   exact ⟨m,p22,b22,k,rfl,by omega,by omega,by omega,by omega,HA22.out⟩
def rk9 (op:Int):Int:=if op≤2 then op else if op≤9 then 4 else if op≤11 then 5 else 6
set_option maxHeartbeats 1000000 in
theorem l2Rank_any (op:Int) (w:World):Calls Tryz.prog 128 #[.int .i64 op] w fun e w'=>e=.returned (.int .i64 (rk9 op))∧w'=w:=by
 unfold rk9
 by_cases h2:op≤2
 ·rw [if_pos h2]
  go_enter Tryz.func128,Tryz.ntmps128
  go_wp2
  go_ret
  exact ⟨rfl,rfl⟩
 ·rw [if_neg h2]
  by_cases h9:op≤9
  ·rw [if_pos h9]
   go_enter Tryz.func128,Tryz.ntmps128
   go_wp2
   go_ret
   exact ⟨rfl,rfl⟩
  ·rw [if_neg h9]
   by_cases h11:op≤11
   ·rw [if_pos h11]
    go_enter Tryz.func128,Tryz.ntmps128
    go_wp2
    go_ret
    exact ⟨rfl,rfl⟩
   ·rw [if_neg h11]
    go_enter Tryz.func128,Tryz.ntmps128
    go_wp2
    go_ret
    exact ⟨rfl,rfl⟩
set_option maxHeartbeats 2000000 in
theorem l2Mark_any (j:Nat) (hj:j < 15) (w:World):Calls Tryz.prog 129 #[.int .i64 j] w fun e w'=>∃ t,e=.returned (.string t)∧Below w.heap.size w w':=by
 have HB:=hid (fun o=>(Below.refl w.heap.size w).alloc (Nat.le_refl _) o)
 obtain rfl | rfl | rfl | rfl | rfl | rfl | rfl | rfl | rfl | rfl | rfl | rfl | rfl | rfl | rfl:j=0∨j=1∨j=2∨j=3∨j=4∨j=5∨j=6∨j=7∨j=8∨j=9∨j=10∨j=11∨j=12∨j=13∨j=14:=by omega
 all_goals
  clear hj
  go_enter Tryz.func129,Tryz.ntmps129
  go_wp2
  go_ret
  exact ⟨_,rfl,HB.out _⟩
def OpE (s:Ds) (ov0:Value) (w0:World) (p:Nat) (bad:Bool) (n:Nat) (e:Ending) (w':World):Prop:=∃ r:Nat,e=.returned (.int .i64 r)∧r≤14∧(r≠0→p < s.T)∧Ad s ov0 w0 p bad n w'
set_option maxHeartbeats 4000000 in
theorem op_at {s:Ds} {ov0:Value} {w0:World} {p n:Nat} {bad:Bool} {w:World} (rank:Int) (h:Ad s ov0 w0 p bad n w) :
  Calls Tryz.prog 117 #[.pointer (some ⟨s.D,0,none⟩),.int .i64 rank] w (OpE s ov0 w0 p bad n):=by
 have HA0:=hid h
 clear h
 go_enter Tryz.func117,Tryz.ntmps117
 go_wp2
 go_loopw [5] (fun c wr=>∃ j:Nat,c=.int .i64 j∧1≤j∧j≤15∧Ad s ov0 w0 p bad n wr) (fun c _=>15 - (intOf c).toNat)
 case atStart=>exact ⟨1,rfl,by omega,by omega,HA0.out⟩
 case round =>
  obtain ⟨j,rfl,hj1,hj2,ad⟩:=hrel
  have HAr:=hid ad
  clear ad HA0
  by_cases hlt:j≤14
  ·have hlt2:(j:Int)≤14:=by omega
   go_wp2_with fail
   refine (l2Rank_any _ _).mono ?_
   rintro e w1 ⟨rfl,rfl⟩
   obtain ⟨rk,hrk⟩:∃ k,rk9 (j:Int)=k:=⟨_,rfl⟩
   rw [hrk]
   clear hrk
   by_cases hr:rk=rank
   ·subst hr
    go_wp2_with fail
    refine (l2Mark_any j (by omega) _).mono ?_
    rintro e w2 ⟨t2,rfl,hb2⟩
    have HA2:=hid (HAr.out.next hb2)
    clear hb2 HAr
    go_wp2_with fail
    refine (is_at HA2.out _).mono ?_
    rintro e w3 (⟨rfl,l3,a3⟩ | ⟨rfl,a3⟩)
    ·have HA3:=hid a3
     clear a3 HA2
     go_wp2
     go_ret
     exact ⟨j,rfl,by omega,fun _=>l3,HA3.out⟩
    ·have HA3:=hid a3
     clear a3 HA2
     go_wp2
     go_roundw
     case rel=>exact ⟨j+1,by go_num,by omega,by omega,HA3.out⟩
     case measure=>simp [intOf];omega
   ·have hrf:(rk == rank)=false:=by simpa using hr
    go_wp2
    go_roundw
    case rel=>exact ⟨j+1,by go_num,by omega,by omega,HAr.out⟩
    case measure=>simp [intOf];omega
  ·have hlt2:¬ (j:Int)≤14:=by omega
   go_wp2
   go_ret
   exact ⟨0,rfl,by omega,fun h=>absurd rfl h,HAr.out⟩
set_option maxHeartbeats 4000000 in
theorem e_at9 {s:Ds} {ov0:Value} {w0:World} {p n:Nat} {bad:Bool} {w:World} (hE:∀ q,p < q→EOk9 s q) (hO:OpsOk9 s 1 p) (h:Ad s ov0 w0 p bad n w) (hl:n+2 * s.T≤400000+2 * p) :
  Calls Tryz.prog 85 #[.pointer (some ⟨s.D,0,none⟩)] w (DE 0 s ov0 w0 p n):=by
 have HA0:=hid h
 have hT:=h.pT.2
 clear h
 go_enter Tryz.func85,Tryz.ntmps85
 go_wp2_with fail
 refine (take_at HA0.out _).mono ?_
 rintro e w1 (⟨rfl,l1,a1⟩ | ⟨rfl,a1⟩)
 ·have HA1:=hid a1
  clear a1 HA0
  go_wp2_with fail
  refine (name_at9 HA1.out).mono ?_
  rintro e w2 ⟨t2,p2,b2,rfl,x2,l2a,l2b,l2c,a2⟩
  have HA2:=hid a2
  have HX2:=hid x2
  have HC2:=hid l2c
  clear a2 HA1 l2c x2
  go_wp2_with fail
  refine (need_at HA2.out _).mono ?_
  rintro e w3 ⟨rfl,p3,b3,l3a,l3b,a3⟩
  have HA3:=hid a3
  clear a3 HA2
  go_wp2_with fail
  refine (hE p3 (by omega) _ _ _ _ _ HA3.out (by have:=HA3.out.pT;omega)).mono ?_
  rintro e w4 ⟨rfl,p4,b4,n4,l4a,l4b,l4c,a4⟩
  have HA4:=hid a4
  clear a4 HA3
  go_wp2_with fail
  refine (need_at HA4.out _).mono ?_
  rintro e w5 ⟨rfl,p5,b5,l5a,l5b,a5⟩
  have HA5:=hid a5
  clear a5 HA4
  go_wp2_with fail
  refine (hE p5 (by omega) _ _ _ _ _ HA5.out (by have:=HA5.out.pT;omega)).mono ?_
  rintro e w6 ⟨rfl,p6,b6,n6,l6a,l6b,l6c,a6⟩
  have HA6:=hid a6
  clear a6 HA5
  go_wp2_with fail
  refine (put_at9 HA6.out ⟨14,0,0,t2,2⟩ (HX2.out) (by have:=HA6.out.pT;omega)).mono ?_
  rintro e w7 ⟨rfl,a7⟩
  have HA7:=hid a7
  clear a7 HA6
  go_wp2
  go_end0
  exact ⟨rfl,p6,b6,(n6+1),by omega,by omega,by omega,HA7.out⟩
 ·have HA1:=hid a1
  clear a1 HA0
  go_wp2_with fail
  refine (take_at HA1.out _).mono ?_
  rintro e w8 (⟨rfl,l8,a8⟩ | ⟨rfl,a8⟩)
  ·have HA8:=hid a8
   clear a8 HA1
   go_wp2_with fail
   refine (hE (p+1) (by omega) _ _ _ _ _ HA8.out (by have:=HA8.out.pT;omega)).mono ?_
   rintro e w9 ⟨rfl,p9,b9,n9,l9a,l9b,l9c,a9⟩
   have HA9:=hid a9
   clear a9 HA8
   go_wp2_with fail
   refine (need_at HA9.out _).mono ?_
   rintro e w10 ⟨rfl,p10,b10,l10a,l10b,a10⟩
   have HA10:=hid a10
   clear a10 HA9
   go_wp2_with fail
   refine (hE p10 (by omega) _ _ _ _ _ HA10.out (by have:=HA10.out.pT;omega)).mono ?_
   rintro e w11 ⟨rfl,p11,b11,n11,l11a,l11b,l11c,a11⟩
   have HA11:=hid a11
   clear a11 HA10
   go_wp2_with fail
   refine (need_at HA11.out _).mono ?_
   rintro e w12 ⟨rfl,p12,b12,l12a,l12b,a12⟩
   have HA12:=hid a12
   clear a12 HA11
   go_wp2_with fail
   refine (hE p12 (by omega) _ _ _ _ _ HA12.out (by have:=HA12.out.pT;omega)).mono ?_
   rintro e w13 ⟨rfl,p13,b13,n13,l13a,l13b,l13c,a13⟩
   have HA13:=hid a13
   clear a13 HA12
   go_wp2_with fail
   refine (put_at9 HA13.out ⟨13,0,0,⟨#[]⟩,3⟩ (by show (⟨#[]⟩:ByteArray).size≤1000;decide) (by have:=HA13.out.pT;omega)).mono ?_
   rintro e w14 ⟨rfl,a14⟩
   have HA14:=hid a14
   clear a14 HA13
   go_wp2
   go_end0
   exact ⟨rfl,p13,b13,(n13+1),by omega,by omega,by omega,HA14.out⟩
  ·have HA8:=hid a8
   clear a8 HA1
   go_wp2_with fail
   refine (take_at HA8.out _).mono ?_
   rintro e w15 (⟨rfl,l15,a15⟩ | ⟨rfl,a15⟩)
   ·have HA15:=hid a15
    clear a15 HA8
    go_wp2_with fail
    refine (params_at (p:=(p+1)) (fun q hq=>hE q (by omega)) HA15.out (by have:=HA15.out.pT;omega)).mono ?_
    rintro e w16 ⟨m16,p16,b16,n16,rfl,l16m,l16a,l16b,l16c,a16⟩
    have HA16:=hid a16
    have z16:=a16.pT.1
    have hm16:m16≤100001:=by omega
    clear a16 HA15
    go_wp2_with fail
    refine (need_at HA16.out _).mono ?_
    rintro e w17 ⟨rfl,p17,b17,l17a,l17b,a17⟩
    have HA17:=hid a17
    clear a17 HA16
    go_wp2_with fail
    refine (hE p17 (by omega) _ _ _ _ _ HA17.out (by have:=HA17.out.pT;omega)).mono ?_
    rintro e w18 ⟨rfl,p18,b18,n18,l18a,l18b,l18c,a18⟩
    have HA18:=hid a18
    clear a18 HA17
    go_wp2_with fail
    refine (put_at9 HA18.out ⟨15,0,0,⟨#[]⟩,(m16:Int)+1⟩ (by show (⟨#[]⟩:ByteArray).size≤1000;decide) (by have:=HA18.out.pT;omega)).mono ?_
    rintro e w19 ⟨rfl,a19⟩
    have HA19:=hid a19
    clear a19 HA18
    go_wp2
    go_end0
    exact ⟨rfl,p18,b18,(n18+1),by omega,by omega,by omega,HA19.out⟩
   ·have HA15:=hid a15
    clear a15 HA8
    go_wp2_with fail
    refine (hO _ _ _ _ _ HA15.out (by have:=HA15.out.pT;omega)).mono ?_
    rintro e w20 ⟨rfl,p20,b20,n20,l20a,l20b,l20c,a20⟩
    have HA20:=hid a20
    clear a20 HA15
    go_wp2
    go_end0
    exact ⟨rfl,p20,b20,n20,by omega,by omega,by omega,HA20.out⟩
def ST9 (s:Ds) (ov0:Value) (w0:World) (p n:Nat) (e:Ending) (w':World):Prop:=e=.returned (.tuple #[])∧∃ p' bad' n',p≤p'∧n≤n'∧n'+2 * p≤n+2 * p'∧(p < p'∨bad'=true)∧Ad s ov0 w0 p' bad' n' w'
set_option maxHeartbeats 16000000 in
theorem statement_at {s:Ds} {ov0:Value} {w0:World} {p n:Nat} {bad:Bool} {w:World} (hE:∀ q,p≤q→EOk9 s q) (h:Ad s ov0 w0 p bad n w) (hl:n+2 * s.T≤400000+2 * p) :
  Calls Tryz.prog 54 #[.pointer (some ⟨s.D,0,none⟩)] w (ST9 s ov0 w0 p n):=by
 have HA0:=hid h
 have hT:=h.pT.2
 clear h
 go_enter Tryz.func54,Tryz.ntmps54
 go_wp2_with fail
 refine (take_at HA0.out _).mono ?_
 rintro e w1 (⟨rfl,l1,a1⟩ | ⟨rfl,a1⟩)
 ·have HA1:=hid a1
  clear a1 HA0
  go_wp2_with fail
  refine (name_at9 HA1.out).mono ?_
  rintro e w2 ⟨t2,p2,b2,rfl,x2,l2a,l2b,l2c,a2⟩
  have HA2:=hid a2
  have HX2:=hid x2
  have HC2:=hid l2c
  clear a2 HA1 l2c x2
  go_wp2_with fail
  refine (params_at (p:=p2) (fun q hq=>hE q (by omega)) HA2.out (by have:=HA2.out.pT;omega)).mono ?_
  rintro e w3 ⟨m3,p3,b3,n3,rfl,l3m,l3a,l3b,l3c,a3⟩
  have HA3:=hid a3
  have z3:=a3.pT.1
  have hm3:m3≤100001:=by omega
  clear a3 HA2
  go_wp2_with fail
  refine (need_at HA3.out _).mono ?_
  rintro e w4 ⟨rfl,p4,b4,l4a,l4b,a4⟩
  have HA4:=hid a4
  clear a4 HA3
  go_wp2_with fail
  refine (hE p4 (by omega) _ _ _ _ _ HA4.out (by have:=HA4.out.pT;omega)).mono ?_
  rintro e w5 ⟨rfl,p5,b5,n5,l5a,l5b,l5c,a5⟩
  have HA5:=hid a5
  clear a5 HA4
  go_wp2_with fail
  refine (put_at9 HA5.out ⟨20,0,0,t2,(m3:Int)+1⟩ (HX2.out) (by have:=HA5.out.pT;omega)).mono ?_
  rintro e w6 ⟨rfl,a6⟩
  have HA6:=hid a6
  clear a6 HA5
  go_wp2_with fail
  refine (need_to HA6.out _).mono ?_
  rintro e w7 ⟨rfl,p7,b7,l7a,l7b,hb7,_,a7⟩
  have HA7:=hid a7
  have HB7:=hid hb7
  clear a7 HA6 hb7
  go_wp2
  go_end0
  exact ⟨rfl,p7,b7,(n5+1),by omega,by omega,by omega,.inl (by omega),HA7.out⟩
 ·have HA1:=hid a1
  clear a1 HA0
  go_wp2_with fail
  refine (take_at HA1.out _).mono ?_
  rintro e w8 (⟨rfl,l8,a8⟩ | ⟨rfl,a8⟩)
  ·have HA8:=hid a8
   clear a8 HA1
   go_wp2_with fail
   refine (name_at9 HA8.out).mono ?_
   rintro e w9 ⟨t9,p9,b9,rfl,x9,l9a,l9b,l9c,a9⟩
   have HA9:=hid a9
   have HX9:=hid x9
   have HC9:=hid l9c
   clear a9 HA8 l9c x9
   go_wp2_with fail
   refine (need_at HA9.out _).mono ?_
   rintro e w10 ⟨rfl,p10,b10,l10a,l10b,a10⟩
   have HA10:=hid a10
   clear a10 HA9
   go_wp2_with fail
   refine (hE p10 (by omega) _ _ _ _ _ HA10.out (by have:=HA10.out.pT;omega)).mono ?_
   rintro e w11 ⟨rfl,p11,b11,n11,l11a,l11b,l11c,a11⟩
   have HA11:=hid a11
   clear a11 HA10
   go_wp2_with fail
   refine (put_at9 HA11.out ⟨21,0,0,t9,1⟩ (HX9.out) (by have:=HA11.out.pT;omega)).mono ?_
   rintro e w12 ⟨rfl,a12⟩
   have HA12:=hid a12
   clear a12 HA11
   go_wp2_with fail
   refine (need_to HA12.out _).mono ?_
   rintro e w13 ⟨rfl,p13,b13,l13a,l13b,hb13,_,a13⟩
   have HA13:=hid a13
   have HB13:=hid hb13
   clear a13 HA12 hb13
   go_wp2
   go_end0
   exact ⟨rfl,p13,b13,(n11+1),by omega,by omega,by omega,.inl (by omega),HA13.out⟩
  ·have HA8:=hid a8
   clear a8 HA1
   go_wp2_with fail
   refine (take_at HA8.out _).mono ?_
   rintro e w14 (⟨rfl,l14,a14⟩ | ⟨rfl,a14⟩)
   ·have HA14:=hid a14
    clear a14 HA8
    go_wp2_with fail
    refine (hE (p+1) (by omega) _ _ _ _ _ HA14.out (by have:=HA14.out.pT;omega)).mono ?_
    rintro e w15 ⟨rfl,p15,b15,n15,l15a,l15b,l15c,a15⟩
    have HA15:=hid a15
    clear a15 HA14
    go_wp2_with fail
    refine (put_at9 HA15.out ⟨22,0,0,⟨#[]⟩,1⟩ (by show (⟨#[]⟩:ByteArray).size≤1000;decide) (by have:=HA15.out.pT;omega)).mono ?_
    rintro e w16 ⟨rfl,a16⟩
    have HA16:=hid a16
    clear a16 HA15
    go_wp2_with fail
    refine (need_to HA16.out _).mono ?_
    rintro e w17 ⟨rfl,p17,b17,l17a,l17b,hb17,_,a17⟩
    have HA17:=hid a17
    have HB17:=hid hb17
    clear a17 HA16 hb17
    go_wp2
    go_end0
    exact ⟨rfl,p17,b17,(n15+1),by omega,by omega,by omega,.inl (by omega),HA17.out⟩
   ·have HA14:=hid a14
    clear a14 HA8
    go_wp2_with fail
    refine (take_at HA14.out _).mono ?_
    rintro e w18 (⟨rfl,l18,a18⟩ | ⟨rfl,a18⟩)
    ·have HA18:=hid a18
     clear a18 HA14
     have hq1:(p+1)≤s.T:=HA18.out.pT.1
     go_wp2_with fail
     refine (tok_at HA18.out).mono ?_
     rintro e w19 ⟨kk,nn,qq,tt,rfl,hx,hk,a19⟩
     have HK:=hid hk
     have HX:=hid hx
     obtain ⟨ovb,kb,ab,bx⟩:=a19.box (.cells #[.int .i64 kk,.string tt,.int .i64 nn,.int .i64 qq] 130)
     have HKB:=hid kb
     have HAb:=hid ab
     have HBF:=hid bx
     clear hk hx a19 HA18 kb ab bx
     go_upto_region 17 with fail
     obtain ⟨xb,hxb⟩:∃ g,w19.heap.size=g:=⟨_,rfl⟩
     obtain ⟨Wb,hWb⟩:∃ W,w19.alloc (.cells #[.int .i64 kk,.string tt,.int .i64 nn,.int .i64 qq] 130)=W:=⟨_,rfl⟩
     rw [hWb] at HKB HAb HBF ⊢
     rw [hxb] at HBF ⊢
     clear hxb hWb
     obtain ⟨⟨x0,x1,x2,x3⟩,_,_,_,_⟩:=tbox (HBF.out _ _ _ _ HAb.out)
     by_cases h4:kk=4
     ·subst h4
      have hp:=HK.out (by decide)
      obtain ⟨_,d2,_,f2⟩:=HAb.out.cells
      have HAi:=hid (HAb.out.inc hp)
      go_wp2_with fail
      refine (need_at HAi.out _).mono ?_
      rintro e w20 ⟨rfl,p20,b20,l20a,l20b,a20⟩
      have HA20:=hid a20
      clear a20 HAi HAb d2 f2 x0 x1 x2 x3
      go_wp2
      go_loopw [6] (fun c6 wr=>∃ m q k:Nat,∃ bb:Bool,c6=.int .i64 m∧m≤q - p20+1∧p20≤q∧n≤k∧k+2 * p20≤n+2 * q∧Ad s ovb Wb q bb k wr) (fun _ wr=>s.T - deskP s wr)
      case atStart=>exact ⟨0,p20,n,_,rfl,by omega,by omega,by omega,by omega,HA20.out⟩
      case round =>
       obtain ⟨m,q,k,bb,rfl,lm,lq,lk,lkq,ad⟩:=hrel
       have HAr:=hid ad
       have HDP:=hid ad.deskP
       have hqT:=ad.pT.1
       clear ad HA20
       obtain ⟨_,_,c3,_⟩:=HAr.out.cells
       cases bb
       ·go_wp2_with fail
        refine (name_at9 HAr.out).mono ?_
        rintro e w21 ⟨t21,p21,b21,rfl,x21,l21a,l21b,l21c,a21⟩
        have HA21:=hid a21
        have HX21:=hid x21
        have HC21:=hid l21c
        clear a21 HAr l21c x21
        go_wp2_with fail
        refine (put_at9 HA21.out ⟨5,0,0,t21,0⟩ (HX21.out) (by have:=HA21.out.pT;omega)).mono ?_
        rintro e w22 ⟨rfl,a22⟩
        have HA22:=hid a22
        clear a22 HA21
        go_wp2_with fail
        refine (take_at HA22.out _).mono ?_
        rintro e w23 (⟨rfl,l23,a23⟩ | ⟨rfl,a23⟩)
        ·have HA23:=hid a23
         clear a23 HA22
         go_wp2
         go_roundw
         case rel=>exact ⟨m+1,(p21+1),(k+1),false,by go_num,by omega,by omega,by omega,by omega,HA23.out⟩
         case measure=>rw [HA23.out.deskP,HDP.out];have:=HA23.out.pT;omega
        ·have HA23:=hid a23
         clear a23 HA22
         obtain ⟨⟨_,x1,_,_⟩,_,_,_,_⟩:=tbox (HBF.out _ _ _ _ HA23.out)
         go_wp2_with fail
         refine (put_at9 HA23.out ⟨23,0,0,tt,(((m+1):Nat):Int)⟩ (HX.out) (by have:=HA23.out.pT;omega)).mono ?_
         rintro e w24 ⟨rfl,a24⟩
         have HA24:=hid a24
         clear a24 HA23
         clear x1
         go_wp2_with fail
         refine (need_to HA24.out _).mono ?_
         rintro e w25 ⟨rfl,p25,b25,l25a,l25b,hb25,_,a25⟩
         have HA25:=hid a25
         have HB25:=hid hb25
         clear a25 HA24 hb25
         go_wp2
         go_end0
         exact ⟨rfl,p25,b25,((k+1)+1),by omega,by omega,by omega,.inl (by omega),HA25.out.comp HKB.out⟩
       ·skip
        obtain ⟨⟨_,x1,_,_⟩,_,_,_,_⟩:=tbox (HBF.out _ _ _ _ HAr.out)
        go_wp2_with fail
        refine (put_at9 HAr.out ⟨23,0,0,tt,((m:Nat):Int)⟩ (HX.out) (by have:=HAr.out.pT;omega)).mono ?_
        rintro e w26 ⟨rfl,a26⟩
        have HA26:=hid a26
        clear a26 HAr
        clear x1
        go_wp2_with fail
        refine (need_to HA26.out _).mono ?_
        rintro e w27 ⟨rfl,p27,b27,l27a,l27b,hb27,_,a27⟩
        have HA27:=hid a27
        have HB27:=hid hb27
        clear a27 HA26 hb27
        go_wp2
        go_end0
        exact ⟨rfl,p27,b27,(k+1),by omega,by omega,by omega,.inl (by omega),HA27.out.comp HKB.out⟩
     ·have e4:(kk != 4)=true:=by simpa using h4
      go_wp2_with fail
      refine (stop_at HAb.out).mono ?_
      rintro e w28 ⟨rfl,a28⟩
      have HA28:=hid a28
      clear a28 HAb
      go_wp2
      exact bodyPost_ret (results_none rfl _ _ _) rfl ⟨rfl,(p+1),true,n,by omega,by omega,by omega,.inr rfl,HA28.out.comp HKB.out⟩
    ·have HA18:=hid a18
     clear a18 HA14
     go_wp2_with fail
     refine (stop_at HA18.out).mono ?_
     rintro e w29 ⟨rfl,a29⟩
     have HA29:=hid a29
     clear a29 HA18
     go_wp2_with fail
     refine (need_to HA29.out _).mono ?_
     rintro e w30 ⟨rfl,p30,b30,l30a,l30b,hb30,_,a30⟩
     have HA30:=hid a30
     have HB30:=hid hb30
     clear a30 HA29 hb30
     go_wp2
     go_end0
     exact ⟨rfl,p30,b30,n,by omega,by omega,by omega,.inr (HB30.out (by trivial)),HA30.out⟩
end Go.Proofs.YthnohneaanphbaaGreatDoor
namespace Go.Proofs.YthnohneaanphbaaGreatDoor
def treeE (nd:Nat→Nd) (o:List (List Nat)) (N:Nat):List Ev :=
 (o.getD (N - 1) []).flatMap fun s=>wk nd o s (fileEnv nd o (o.getD (N - 1) []) builtEnv) ++ mksE nd o s (fileEnv nd o (o.getD (N - 1) []) builtEnv)
theorem fileF_find (nd:Nat→Nd) (ms:List Nat) (f:ByteArray→Option Int) (t:ByteArray):fileF nd f ms t=(f t).or ((ms.find? fun m=>decide ((nd m).text=t)).map fun m=>(m:Int)):=by
 induction ms generalizing f with
 | nil=>simp [fileF]
 | cons m ms ih =>
  have e:fileF nd f (m :: ms)=fileF nd (addF f (nd m).text m) ms:=rfl
  rw [e,ih]
  unfold addF
  by_cases h:t=(nd m).text
  ·have h2:(nd m).text=t:=h.symm
   rw [if_pos h,List.find?_cons_of_pos (by simp [h2])]
   cases f t <;> simp
  ·have h2:¬ (nd m).text=t:=fun e=>h e.symm
   rw [if_neg h,List.find?_cons_of_neg (by simp [h2])]
   simp
theorem ext_fold (L:List (ByteArray × Nat)) (kn:Env) (t:ByteArray):(L.foldl (fun kn p=>kn.ext p.1 p.2) kn) t=-1 ↔ (∀ p ∈ L,¬ p.1=t)∧kn t=-1:=by
 induction L generalizing kn with
 | nil=>simp
 | cons p L ih =>
  rw [List.foldl_cons,ih]
  unfold Env.ext
  by_cases h:t=p.1
  ·subst h
   simp only [if_true]
   constructor
   ·rintro ⟨_,h⟩;omega
   ·rintro ⟨h,_⟩;exact absurd rfl (h p (by simp))
  ·rw [if_neg h]
   constructor
   ·rintro ⟨h1,h2⟩
    refine ⟨fun q hq=>?_,h2⟩
    rcases List.mem_cons.1 hq with e | e
    ·subst e;exact fun e=>h e.symm
    ·exact h1 q e
   ·rintro ⟨h1,h2⟩
    exact ⟨fun q hq=>h1 q (by simp [hq]),h2⟩
theorem env_same (nd:Nat→Nd) (o:List (List Nat)) (ks:List Nat):Same (fileEnv nd o ks builtEnv) (envL (knOf nd (ks.flatMap (makersOf nd o)))):=by
 intro t
 unfold fileEnv envL
 rw [ext_fold,fileF_find]
 generalize ks.flatMap (makersOf nd o)=ms
 simp only [Option.none_or]
 cases hf:ms.find? fun m=>decide ((nd m).text=t) with
 | none =>
  have:=List.find?_eq_none.1 hf
  show builtEnv t=-1 ↔ _
  constructor
  ·intro h
   refine ⟨fun p hp=>?_,h⟩
   unfold knOf at hp
   obtain ⟨m,hm,rfl⟩:=List.mem_map.1 hp
   have:=this m hm
   simpa using this
  ·exact fun h=>h.2
 | some m =>
  have h1:=List.find?_some hf
  have h2:=List.mem_of_find?_eq_some hf
  show (m:Int)=-1 ↔ _
  constructor
  ·intro h;omega
  ·rintro ⟨h,_⟩
   exact absurd (by simpa using h1) (h ((nd m).text,m) (by unfold knOf;exact List.mem_map.2 ⟨m,h2,rfl⟩))
theorem mksE_flat (nd:Nat→Nd) (o:List (List Nat)) (s:Nat) (kn:Env):mksE nd o s kn=(makersOf nd o s).flatMap (mkE nd kn):=by
 unfold mksE makersOf
 split
 ·simp
 ·split
  ·rfl
  ·rfl
theorem flatMap_one (l:List Nat):l.flatMap (fun m=>[(m,8)])=l.map fun m=>(m,8):=by
 induction l with
 | nil=>rfl
 | cons a l ih=>rw [List.flatMap_cons,List.map_cons,ih];rfl
theorem srt_makers {nd:Nat→Nd} {N:Nat} {o:List (List Nat)} {S:List Nat} (h:kidsF nd N=some (o,S)) (hN:1≤N):((o.getD (N - 1) []).flatMap (makersOf nd o)).Pairwise (· < ·)∧Srt (low o (N - 1)) (N - 1) (((o.getD (N - 1) []).flatMap (makersOf nd o)).map fun m=>(m,8)):=by
 obtain ⟨_,_,_,ht⟩:=tile_all h N (Nat.le_refl _)
 have hl:=(kidsF_len nd _ _ _ h).1
 have one:∀ s,s < N→Srt (low o s) (s+1) ((makersOf nd o s).map fun m=>(m,8)):=fun s hs=>by
  have t:=ht s hs
  unfold makersOf
  split
  ·exact (Srt.one s 8 (by decide)).mono t.le (Nat.le_refl _)
  ·split
   ·have:=srt_tile (o:=o) (f:=fun m=>[(m,8)]) (o.getD s []) _ _ t fun m hm=>(Srt.one m 8 (by decide)).mono ((ht m (by have:=down_of h s m hm;omega)).le) (Nat.le_refl _)
    rw [flatMap_one] at this
    exact this.mono (Nat.le_refl _) (Nat.le_succ _)
   ·exact Srt.nil _ _
 have key:Srt (low o (N - 1)) (N - 1) (((o.getD (N - 1) []).flatMap (makersOf nd o)).map fun m=>(m,8)):=by
  rw [List.map_flatMap]
  exact srt_tile _ _ _ (ht (N - 1) (by omega)) fun s hs=>one s (by have:=down_of h (N - 1) s hs;omega)
 refine ⟨?_,key⟩
 have:=key.1
 rw [List.pairwise_map] at this
 exact this.imp fun {a b} hab=>by rcases hab with h | h <;> simp only at h <;> omega
theorem srt_tree {nd:Nat→Nd} {N:Nat} {o:List (List Nat)} {S:List Nat} (h:kidsF nd N=some (o,S)) (hN:1≤N) (hfit:∀ i,i < N→FitAt nd o i) (h24:(nd (N - 1)).kind=24):Srt (low o (N - 1)) (N - 1) (fls (treeE nd o N)):=by
 obtain ⟨_,_,_,ht⟩:=tile_all h N (Nat.le_refl _)
 have hd:=down_of h
 have hk:=fun k hk=>fits_kidded hfit k hk
 unfold treeE
 generalize fileEnv nd o (o.getD (N - 1) []) builtEnv=kn
 rw [fls_flatMap]
 refine srt_tile _ _ _ (ht (N - 1) (by omega)) fun s hs=>?_
 have hsN:s < N:=by have:=hd (N - 1) s hs;omega
 have hst:=(kids_file (hfit (N - 1) (by omega)) h24).2 s hs
 have t:=ht s hsN
 rw [fls_append]
 have k1:∀ m,Srt m (m+1) (fls (mkE nd kn m)):=fun m=>by
  unfold mkE
  split
  ·exact Srt.nil _ _
  ·exact Srt.one m 8 (by decide)
 by_cases h23:(nd s).kind=23
 ·have e:wk nd o s kn=[]:=by
   rw [wk_eq hd (hk s hsN)]
   unfold nodeE
   rw [if_neg (by omega),if_neg (by omega),if_neg (by omega),if_pos h23]
  rw [e]
  unfold mksE
  rw [if_neg (by omega),if_pos h23,fls_flatMap]
  exact (srt_tile (o:=o) (f:=fun m=>fls (mkE nd kn m)) _ _ _ t fun m hm=>(k1 m).mono ((ht m (by have:=hd s m hm;omega)).le) (Nat.le_refl _)).mono (Nat.le_refl _) (Nat.le_succ _)
 ·have w1:=(srt_wk hd N hk ht s hsN kn).2 (by omega)
  unfold mksE
  split
  ·exact w1.append (k1 s) t.le (Nat.le_succ _)
  ·show Srt _ _ (_ ++ [])
   rw [List.append_nil]
   exact w1.mono (Nat.le_refl _) (Nat.le_succ _)
theorem wk_root {nd:Nat→Nd} {N:Nat} {o:List (List Nat)} {S:List Nat} (h:kidsF nd N=some (o,S)) (hN:1≤N) (hfit:∀ i,i < N→FitAt nd o i) (h24:(nd (N - 1)).kind=24) (kn:Env):wk nd o (N - 1) kn=(o.getD (N - 1) []).flatMap fun s=>wk nd o s kn:=by
 rw [wk_eq (down_of h) (fits_kidded hfit (N - 1) (by omega))]
 unfold nodeE
 rw [if_neg (by omega),if_neg (by omega),if_neg (by omega),if_neg (by omega)]
theorem up_get {ms:List Nat} (h:ms.Pairwise (· < ·)) {i q:Nat} {m:Nat} (hi:ms[i]?=some m) (hq:ms[q]?=some m):i=q:=by
 obtain ⟨l1,e1⟩:=List.getElem?_eq_some_iff.1 hi
 obtain ⟨l2,e2⟩:=List.getElem?_eq_some_iff.1 hq
 rcases Nat.lt_trichotomy i q with hh | hh | hh
 ·have:=List.pairwise_iff_getElem.1 h i q l1 l2 hh;omega
 ·exact hh
 ·have:=List.pairwise_iff_getElem.1 h q i l2 l1 hh;omega
theorem mk_dup {nd:Nat→Nd} {o:List (List Nat)} {ks ms:List Nat} (hms:ms=ks.flatMap (makersOf nd o)) (hup:ms.Pairwise (· < ·)) {i m:Nat} (hi:ms[i]?=some m):fileEnv nd o ks builtEnv (nd m).text=(m:Int) ↔ dupB nd (ms.take i) (nd m).text=false:=by
 have hmm:=List.mem_of_getElem? hi
 unfold fileEnv
 rw [← hms,fileF_find]
 show ((ms.find? fun x=>decide ((nd x).text=(nd m).text)).map fun x=>(x:Int)).getD _=_ ↔ _
 cases hf:ms.find? fun x=>decide ((nd x).text=(nd m).text) with
 | none=>exact absurd (List.find?_eq_none.1 hf m hmm) (by simp)
 | some x =>
  show (x:Int)=(m:Int) ↔ _
  obtain ⟨hx,aa,bs,e,hno⟩:=List.find?_eq_some_iff_append.1 hf
  have hxi:ms[aa.length]?=some x:=by rw [e,List.getElem?_append_right (Nat.le_refl _),Nat.sub_self];rfl
  constructor
  ·intro hh
   have hxm:x=m:=by omega
   subst hxm
   have:i=aa.length:=up_get hup hi hxi
   rw [this,e,List.take_left']
   ·unfold dupB
    rw [List.any_eq_false]
    intro a ha
    have:=hno a ha
    simpa using this
   ·rfl
  ·intro hh
   unfold dupB at hh
   rw [List.any_eq_false] at hh
   rcases Nat.lt_trichotomy aa.length i with hl | hl | hl
   ·have:x ∈ ms.take i:=List.mem_of_getElem? (i:=aa.length) (by rw [List.getElem?_take_of_lt hl];exact hxi)
    exact absurd hx (by simpa using hh x this)
   ·rw [hl,hi] at hxi
    injection hxi with hxi
    rw [hxi]
   ·have:m ∈ aa:=List.mem_of_getElem? (i:=i) (by rw [e,List.getElem?_append_left hl] at hi;exact hi)
    have:=hno m this
    simp at this
theorem fls_flt8 (b:Bool) (y c:Nat) (z:Nat × Nat):z ∈ fls (flt8 b y c) ↔ b=true∧z=(y,c):=by
 unfold flt8
 cases b <;> simp [fls]
theorem faults_same {nd:Nat→Nd} {N:Nat} {o:List (List Nat)} {S:List Nat} (h:kidsF nd N=some (o,S)) (hN:1≤N) (hfit:∀ i,i < N→FitAt nd o i) (h24:(nd (N - 1)).kind=24) (z:Nat × Nat):z ∈ fls (treeE nd o N) ↔ z ∈ fls (lookE nd o N):=by
 have hd:=down_of h
 have hup:=(srt_makers h hN).1
 obtain ⟨ks,hks⟩:∃ ks,o.getD (N - 1) []=ks:=⟨_,rfl⟩
 obtain ⟨ms,hms⟩:∃ ms,ms=ks.flatMap (makersOf nd o):=⟨_,rfl⟩
 have hsame:=env_same nd o ks
 have hsN:∀ s ∈ ks,s < N:=fun s hs=>by have:=hd (N - 1) s (by rw [hks];exact hs);omega
 unfold treeE lookE
 rw [wk_root h hN hfit h24,hks]
 rw [hks] at hup
 rw [← hms] at hup hsame ⊢
 rw [fls_flatMap,fls_append,fls_flatMap,List.mem_flatMap,List.mem_append,List.mem_flatMap]
 have e8:z ∈ fls (madeE nd ms ms.length) ↔ ∃ m ∈ ms,z ∈ fls (mkE nd (fileEnv nd o ks builtEnv) m):=by
  unfold madeE
  rw [fls_flatMap,List.mem_flatMap]
  constructor
  ·rintro ⟨i,hi,hz⟩
   have hil:=List.mem_range.1 hi
   rw [fls_flt8] at hz
   have hg:ms[i]?=some ms[i]:=List.getElem?_eq_getElem hil
   have hgd:ms.getD i 0=ms[i]:=by rw [List.getD_eq_getElem?_getD,hg];rfl
   rw [hgd] at hz
   refine ⟨ms[i],List.getElem_mem hil,?_⟩
   have hq:=mk_dup hms hup hg
   unfold mkE
   rw [if_neg (fun e=>by rw [hq.1 e] at hz;exact absurd hz.1 (by decide))]
   rw [hz.2]
   simp [fls]
  ·rintro ⟨m,hm,hz⟩
   obtain ⟨i,hil,hg⟩:=List.getElem_of_mem hm
   have hg':ms[i]?=some m:=by rw [List.getElem?_eq_getElem hil,hg]
   have hgd:ms.getD i 0=m:=by rw [List.getD_eq_getElem?_getD,hg'];rfl
   refine ⟨i,List.mem_range.2 hil,?_⟩
   rw [fls_flt8,hgd]
   have hq:=mk_dup hms hup hg'
   unfold mkE at hz
   by_cases hc:fileEnv nd o ks builtEnv (nd m).text=(m:Int)
   ·rw [if_pos hc] at hz;cases hz
   ·rw [if_neg hc] at hz
    refine ⟨?_,by simpa [fls] using hz⟩
    cases hb:dupB nd (ms.take i) (nd m).text with
    | true=>rfl
    | false=>exact absurd (hq.2 hb) hc
 rw [e8]
 constructor
 ·rintro ⟨s,hs,hz⟩
  rw [fls_append,List.mem_append] at hz
  rcases hz with hz | hz
  ·exact .inr ⟨s,hs,by rw [← fls_same hd N (fun k hk=>fits_kidded hfit k hk) s (hsN s hs) _ _ hsame];exact hz⟩
  ·rw [mksE_flat,fls_flatMap,List.mem_flatMap] at hz
   obtain ⟨m,hm,hz⟩:=hz
   exact .inl ⟨m,by rw [hms];exact List.mem_flatMap.2 ⟨s,hs,hm⟩,hz⟩
 ·rintro (⟨m,hm,hz⟩ | ⟨s,hs,hz⟩)
  ·rw [hms] at hm
   obtain ⟨s,hs,hm⟩:=List.mem_flatMap.1 hm
   refine ⟨s,hs,?_⟩
   rw [fls_append,List.mem_append,mksE_flat,fls_flatMap,List.mem_flatMap]
   exact .inr ⟨m,hm,hz⟩
  ·refine ⟨s,hs,?_⟩
   rw [fls_append,List.mem_append]
   exact .inl (by rw [fls_same hd N (fun k hk=>fits_kidded hfit k hk) s (hsN s hs) _ _ hsame];exact hz)
theorem first_same {nd:Nat→Nd} {N:Nat} {o:List (List Nat)} {S:List Nat} (h:kidsF nd N=some (o,S)) (hN:1≤N) (hfit:∀ i,i < N→FitAt nd o i) (h24:(nd (N - 1)).kind=24) {cf:Nat→Nat} (hok:CodesOk cf (fun y=>y ∈ fls (lookE nd o N))) :
  (fls (treeE nd o N)=[]→∀ i,cf i=0)∧∀ k c r,fls (treeE nd o N)=(k,c) :: r→k < N∧cf k=c∧c≠0∧∀ i,i < k→cf i=0:=by
 have hs:=srt_tree h hN hfit h24
 have hf:=faults_same h hN hfit h24
 constructor
 ·intro e i
  rcases hok i with ⟨h1,_⟩ | ⟨h1,_⟩
  ·exact h1
  ·rw [← hf,e] at h1;cases h1
 ·intro k c r e
  rw [e] at hs
  have hm:(k,c) ∈ fls (lookE nd o N):=by rw [← hf,e];simp
  have hb:=hs.2 (k,c) (by simp)
  simp only at hb
  have hlow:∀ y ∈ r,FLt (k,c) y:=fun y hy=>(List.pairwise_cons.1 hs.1).1 y hy
  refine ⟨by omega,?_,by omega,fun i hi=>?_⟩
  ·rcases hok k with ⟨_,h2⟩ | ⟨h1,_,h3⟩
   ·exact absurd hm (h2 c)
   ·have:=h3 c hm
    rw [← hf,e] at h1
    rcases List.mem_cons.1 h1 with h1 | h1
    ·injection h1
    ·rcases hlow _ h1 with h | h <;> simp only at h <;> omega
  ·rcases hok i with ⟨h1,_⟩ | ⟨h1,_⟩
   ·exact h1
   ·rw [← hf,e] at h1
    rcases List.mem_cons.1 h1 with h1 | h1
    ·injection h1 with h1;omega
    ·rcases hlow _ h1 with h | h <;> simp only at h <;> omega
end Go.Proofs.YthnohneaanphbaaGreatDoor
namespace Go.Proofs.YthnohneaanphbaaGreatDoor
open Go.RowKit
set_option maxRecDepth 20000
def CheckR (nd:Nat→Nd) (N:Nat) (c a:Int):Prop:=(¬ ValidT nd N∧c=11∧a=0) ∨
 ∃ o x,ValidT nd N∧kidsF nd N=some (o,[x])∧∃ cf,CodesOk cf (fun y=>y ∈ fls (lookE nd o N))∧(((∀ i,i < N→cf i=0)∧c=0∧a=0)∨∃ i,i < N∧cf i≠0∧(∀ k,k < i→cf k=0)∧c=(cf i:Int)∧a=(i:Int))
theorem ret2 {W:World} {r:Nat} {x y:Value} (h:W.heap[r]?=some (.cells #[x,y] 37 (0,0))) (c a:Value) :
  ((W.setCell ⟨r,0,none⟩ c).setCell ⟨r,1,none⟩ a).cell? ⟨r,0,none⟩=some c∧((W.setCell ⟨r,0,none⟩ c).setCell ⟨r,1,none⟩ a).cell? ⟨r,1,none⟩=some a:=by
 have q0:=set_atC a (i:=1) (set_atC c (i:=0) h)
 constructor
 ·unfold World.cell?;rw [q0];rfl
 ·unfold World.cell?;rw [q0];rfl
theorem zero2 {W:World} {r:Nat} {x y:Value} (h:W.heap[r]?=some (.cells #[x,y] 37 (0,0))) :
  W.cell? ⟨r,0,none⟩=some x∧W.cell? ⟨r,1,none⟩=some y∧W.frozen? ⟨r,0,none⟩=false∧W.frozen? ⟨r,1,none⟩=false:=by
 refine ⟨?_,?_,?_,?_⟩
 ·unfold World.cell?;rw [h];rfl
 ·unfold World.cell?;rw [h];rfl
 ·unfold World.frozen?;rw [h];simp
 ·unfold World.frozen?;rw [h];simp
set_option maxHeartbeats 2000000 in
theorem specCheck_any (b N cap:Nat) (nd:Nat→Nd) (w:World) (hN:N≤1048576) (hb:b < w.heap.size) (hn:NodesAt w b N nd) (hx:∀ i,i < N→(nd i).text.size≤maxLen) :
  Calls Tryz.prog 10 #[.agg #[.slice (some ⟨b,0,none⟩) N cap]] w fun e w'=>(∃ c a,e=.returned (.agg #[.int .i64 c,.int .i64 a])∧CheckR nd N c a)∧Below w.heap.size w w':=by
 have HN:=hid hn
 have HX:=hid hx
 clear hn hx
 have HA:Hid (Below w.heap.size w ((w.alloc (.cells #[.slice (some ⟨b,0,none⟩) N cap] 25)).alloc (.cells #[.int .i64 0,.int .i64 0] 37))):=((Below.refl _ _).alloc (Nat.le_refl _) _).alloc (by simp) _
 have HR0:Hid ((World.heap ((w.alloc (.cells #[.slice (some ⟨b,0,none⟩) N cap] 25)).alloc (.cells #[.int .i64 0,.int .i64 0] 37)))[w.heap.size+1]?=some (.cells #[.int .i64 0,.int .i64 0] 37 (0,0))∧((w.alloc (.cells #[.slice (some ⟨b,0,none⟩) N cap] 25)).alloc (.cells #[.int .i64 0,.int .i64 0] 37)).cell? ⟨w.heap.size,0,none⟩=some (.slice (some ⟨b,0,none⟩) N cap)):=by
  refine ⟨?_,?_⟩
  ·have:=heap_alloc_new (w.alloc (.cells #[.slice (some ⟨b,0,none⟩) N cap] 25)) (.cells #[.int .i64 0,.int .i64 0] 37)
   rw [World.size_alloc] at this
   exact this
  ·rw [cell_alloc_lt _ _ _ _ (by simp)]
   exact cell_new_row w _ _ 0
 have HSZ:Hid (((w.alloc (.cells #[.slice (some ⟨b,0,none⟩) N cap] 25)).alloc (.cells #[.int .i64 0,.int .i64 0] 37)).heap.size=w.heap.size+2):=by show _=_;simp
 go_enter Tryz.func10,Tryz.ntmps10
 go_wp2_with fail
 refine (specValid_all b N cap nd _ hN (by rw [HSZ.out];omega) (HN.out.below HA.out hb) HX.out).mono ?_
 rintro e w1 ⟨hs1,hb1⟩
 have HB1:=hid (HA.out.trans (hb1.mono (by rw [HSZ.out];omega)))
 have hw1:w.heap.size+2≤w1.heap.size:=by have:=hb1.size;rw [HSZ.out] at this;exact this
 have hF1:w1.heap[w.heap.size+1]?=some (.cells #[.int .i64 0,.int .i64 0] 37 (0,0)):=(hb1.block _ (by rw [HSZ.out];omega)).trans HR0.out.1
 have t1:w1.cell? ⟨w.heap.size,0,none⟩=some (.slice (some ⟨b,0,none⟩) N cap):=(hb1.cell (p:=⟨w.heap.size,0,none⟩) (by rw [HSZ.out];show w.heap.size < w.heap.size+2;omega)).trans HR0.out.2
 clear hb1
 rcases hs1.get with ⟨rfl,hV⟩ | ⟨rfl,hV⟩
 ·have HV:=hid hV
  obtain ⟨_,hV2,_,o,xx,hV4,_⟩:=hV
  have HKF:=hid hV4
  clear hV4 hs1
  go_wp2_with fail
  refine (l3Look_any b N cap nd o w1 (by omega) (HN.out.below HB1.out hb) HX.out HV.out xx HKF.out).mono ?_
  rintro e w2 ⟨wb,gc,gb,gk,b',cap',ck,cf,bn,rfl,hwb,hgc,_,hok,_,_,hb2⟩
  have HB2:=hid (HB1.out.trans (hb2.mono (by omega)))
  have hF2:=(hb2.block _ (by omega)).trans hF1
  have HF2:=hid hF2
  have HOK:=hid hok
  have HGC:=hid hgc
  have f2:w2.cell? ⟨wb,2,none⟩=some (.slice (some ⟨gc,0,none⟩) N N):=by unfold World.cell?;rw [hwb];rfl
  obtain ⟨r0,r1,r2,r3⟩:=zero2 hF2
  clear hwb hgc hok hb2 hF2 hF1 t1
  go_wp2
  go_loopw [4] (fun i wr=>∃ j:Nat,j≤N∧i=.int .i64 j∧(∀ k,k < j→cf k=0)∧wr=w2) (fun i _=>N - (intOf i).toNat)
  case atStart=>exact ⟨0,Nat.zero_le _,rfl,fun k h=>absurd h (Nat.not_lt_zero _),rfl⟩
  case round =>
   obtain ⟨j,hj,rfl,hno,rfl⟩:=hrel
   have HNO:=hid hno
   clear hno
   by_cases hlt:j < N
   ·obtain ⟨c0,_⟩:=HGC.out.cell j hlt
    by_cases hc:cf j=0
    ·rw [hc] at c0
     have HNX:Hid (∀ k,k < j+1→cf k=0):=fun k hk=>by
      rcases Nat.lt_or_eq_of_le (Nat.lt_succ_iff.1 hk) with h | h
      ·exact HNO.out k h
      ·subst h;exact hc
     clear hc
     go_wp2
     go_roundw
     case rel=>exact ⟨j+1,by omega,by go_num,HNX.out,trivial⟩
     case measure=>simp [intOf];omega
    ·have HC:=hid hc
     have q1:((cf j:Int) != 0)=true:=by rw [bne_iff_ne];omega
     clear hc
     obtain ⟨p0,p1⟩:=ret2 HF2.out (.int .i64 (cf j)) (.int .i64 j)
     have HBE:Hid (Below w.heap.size w ((wr.setCell ⟨w.heap.size+1,0,none⟩ (.int .i64 (cf j))).setCell ⟨w.heap.size+1,1,none⟩ (.int .i64 j))):=(HB2.out.setCell (p:=⟨w.heap.size+1,0,none⟩) (Nat.le_succ _) _).setCell (p:=⟨w.heap.size+1,1,none⟩) (Nat.le_succ _) _
     go_wp2
     generalize (wr.setCell ⟨w.heap.size+1,0,none⟩ (.int .i64 (cf j))).setCell ⟨w.heap.size+1,1,none⟩ (.int .i64 j)=w5 at *
     refine bodyPost_ret (v:=.agg #[.int .i64 (cf j),.int .i64 j]) (by simp [results,Tryz.results10,go_sem,p0,p1]) rfl ?_
     exact ⟨⟨_,_,rfl,.inr ⟨o,xx,HV.out,HKF.out,cf,HOK.out,.inr ⟨j,hlt,HC.out,HNO.out,rfl,rfl⟩⟩⟩,HBE.out⟩
   ·obtain rfl:j=N:=by omega
    obtain ⟨p0,p1⟩:=ret2 HF2.out (.int .i64 0) (.int .i64 0)
    have HBE:Hid (Below w.heap.size w ((wr.setCell ⟨w.heap.size+1,0,none⟩ (.int .i64 0)).setCell ⟨w.heap.size+1,1,none⟩ (.int .i64 0))):=(HB2.out.setCell (p:=⟨w.heap.size+1,0,none⟩) (Nat.le_succ _) _).setCell (p:=⟨w.heap.size+1,1,none⟩) (Nat.le_succ _) _
    go_wp2
    generalize (wr.setCell ⟨w.heap.size+1,0,none⟩ (.int .i64 0)).setCell ⟨w.heap.size+1,1,none⟩ (.int .i64 0)=w5 at *
    refine bodyPost_ret (v:=.agg #[.int .i64 0,.int .i64 0]) (by simp [results,Tryz.results10,go_sem,p0,p1]) rfl ?_
    exact ⟨⟨0,0,rfl,.inr ⟨o,xx,HV.out,HKF.out,cf,HOK.out,.inl ⟨HNO.out,rfl,rfl⟩⟩⟩,HBE.out⟩
 ·have HV:=hid hV
  clear hV hs1
  obtain ⟨r0,r1,r2,r3⟩:=zero2 hF1
  obtain ⟨p0,p1⟩:=ret2 hF1 (.int .i64 11) (.int .i64 0)
  have HBE:Hid (Below w.heap.size w ((w1.setCell ⟨w.heap.size+1,0,none⟩ (.int .i64 11)).setCell ⟨w.heap.size+1,1,none⟩ (.int .i64 0))):=(HB1.out.setCell (p:=⟨w.heap.size+1,0,none⟩) (Nat.le_succ _) _).setCell (p:=⟨w.heap.size+1,1,none⟩) (Nat.le_succ _) _
  go_wp2
  clear r0 r1 r2 r3 t1 hF1
  generalize (w1.setCell ⟨w.heap.size+1,0,none⟩ (.int .i64 11)).setCell ⟨w.heap.size+1,1,none⟩ (.int .i64 0)=w2 at *
  refine bodyPost_ret (v:=.agg #[.int .i64 11,.int .i64 0]) (by simp [results,Tryz.results10,go_sem,p0,p1]) rfl ?_
  exact ⟨⟨11,0,rfl,.inl ⟨HV.out,rfl,rfl⟩⟩,HBE.out⟩
end Go.Proofs.YthnohneaanphbaaGreatDoor
namespace Go.Proofs.YthnohneaanphbaaGreatDoor
open Go.RowKit Go.Maps Go.WideMaps
set_option maxRecDepth 20000
def BoundEnd (nd:Nat→Nd) (N:Nat) (w w':World) (e:Ending):Prop:=Below w.heap.size w w' ∧
 ((¬ ValidT nd N∧e=.returned (.tuple #[.slice none 0 0,.agg #[.int .i64 11,.int .i64 0]])) ∨
  (∃ o x,ValidT nd N∧kidsF nd N=some (o,[x])∧((∃ k c r,fls (treeE nd o N)=(k,c) :: r∧e=.returned (.tuple #[.slice none 0 0,.agg #[.int .i64 (c:Nat),.int .i64 (k:Nat)]])) ∨
   (fls (treeE nd o N)=[]∧∃ gb,e=.returned (.tuple #[.slice (some ⟨gb,0,none⟩) N N,.agg #[.int .i64 0,.int .i64 0]])∧w.heap.size≤gb∧BnAt w' gb N (apB (fun _=>-1) (treeE nd o N))))))
theorem kg_stb {W:World} {S:Nat→Prop} {gk N B:Nat} {o:List (List Nat)} (h:KG W gk N o) (hb:∀ i,i < N→∀ g n c,W.cell? ⟨gk,i,none⟩=some (.slice (some ⟨g,0,none⟩) n c)→B≤g) (hgk:B≤gk) (hS:∀ k,S k→k < B∨W.heap.size≤k):Stb S W fun W'=>KG W' gk N o:=by
 intro W' hW i hi
 obtain ⟨ad,c,h1,h2,h3,h4⟩:=h i hi
 have l1:=World.block_lt_of_cell? W _ h1
 refine ⟨ad,c,(hW.cell (p:=⟨gk,i,none⟩) l1 (fun hs=>by rcases hS _ hs with h | h <;> simp only at h l1 <;> omega)).trans h1,h2,h3,h4.imp_right ?_⟩
 rintro ⟨g,rfl,hc⟩
 refine ⟨g,rfl,fun j hj=>?_⟩
 have l2:=World.block_lt_of_cell? W _ (hc j hj)
 have l3:=hb i hi g _ _ h1
 exact (hW.cell (p:=⟨g,j,none⟩) l2 (fun hs=>by rcases hS _ hs with h | h <;> simp only at h l2 <;> omega)).trans (hc j hj)
def BoxR (nd:Nat→Nd) (o:List (List Nat)) (N b cap:Nat) (w1:World) (v:Value) (wx:World):Prop:=∃ bb gm gk,v=.pointer (some ⟨bb,0,none⟩)∧w1.heap.size≤bb∧w1.heap.size≤gm∧bb≠gm∧gk≠bb∧gk≠gm ∧
 (Bx.mk bb gm b N cap gk nd o).At wx (fun _=>0) 0 0∧Stb (fun k=>k=bb∨k=gm) wx (fun W=>KG W gk N o)∧Below w1.heap.size w1 wx
theorem kg_lt {W:World} {gk N:Nat} {o:List (List Nat)} (h:KG W gk N o) (hN:1≤N):gk < W.heap.size:=by
 obtain ⟨ad,c,h1,_⟩:=h 0 (by omega)
 exact World.block_lt_of_cell? W _ h1
theorem box_end {nd:Nat→Nd} {o:List (List Nat)} {N b cap:Nat} {w1 W0 w2 wx:World} (bb gm gk:Nat) (hN:1≤N) (h0:Below w1.heap.size w1 W0) (hgk:W0.heap.size≤gk) (hkg:KG w2 gk N o)
  (hkb:∀ i,i < N→∀ g n c,w2.cell? ⟨gk,i,none⟩=some (.slice (some ⟨g,0,none⟩) n c)→W0.heap.size≤g) (hb2:Below W0.heap.size W0 w2)
  (hbb:w1.heap.size≤bb∧(bb < W0.heap.size∨w2.heap.size≤bb)) (hgm:w1.heap.size≤gm∧(gm < W0.heap.size∨w2.heap.size≤gm)) (hne:bb≠gm) (hsv:Sv (fun k=>k=bb∨k=gm) w2 wx)
  (hbx:wx.heap[bb]?=some (.cells #[.slice (some ⟨b,0,none⟩) N cap,.slice (some ⟨gk,0,none⟩) N N,.slice (some ⟨gm,0,none⟩) N N,.int .i64 0,.int .i64 0] 71 (0,0))) (hgx:wx.heap[gm]?=some (.cells (madeCells #[.int .i64 0] N) 3 (0,0))) :
  BoxR nd o N b cap w1 (.pointer (some ⟨bb,0,none⟩)) wx:=by
 have hl:=kg_lt hkg hN
 have hz:=h0.size
 have hz2:=hb2.size
 refine ⟨bb,gm,gk,rfl,hbb.1,hgm.1,hne,by rcases hbb.2 with h | h <;> omega,by rcases hgm.2 with h | h <;> omega,⟨hbx,bn_made hgx⟩,?_,?_⟩
 ·refine Stb.go (kg_stb hkg hkb hgk ?_) hsv
  rintro k (rfl | rfl)
  ·exact hbb.2
  ·exact hgm.2
 ·refine (h0.trans (hb2.mono hz)).trans (hsv.below (Nat.le_trans hz hz2) ?_)
  rintro k (rfl | rfl)
  ·exact hbb.1
  ·exact hgm.1
structure Five0 (W:World) (bb:Nat):Prop where
 c0:W.cell? ⟨bb,0,none⟩=some (.slice none 0 0)
 c1:W.cell? ⟨bb,1,none⟩=some (.slice none 0 0)
 c2:W.cell? ⟨bb,2,none⟩=some (.slice none 0 0)
 c3:W.cell? ⟨bb,3,none⟩=some (.int .i64 0)
 c4:W.cell? ⟨bb,4,none⟩=some (.int .i64 0)
 f0:W.frozen? ⟨bb,0,none⟩=false
 f1:W.frozen? ⟨bb,1,none⟩=false
 f2:W.frozen? ⟨bb,2,none⟩=false
 f3:W.frozen? ⟨bb,3,none⟩=false
 f4:W.frozen? ⟨bb,4,none⟩=false
theorem five0 {W:World} {bb:Nat} (h:W.heap[bb]?=some (.cells #[.slice none 0 0,.slice none 0 0,.slice none 0 0,.int .i64 0,.int .i64 0] 71 (0,0))):Five0 W bb:=by
 have f:∀ i,W.frozen? ⟨bb,i,none⟩=false:=fun i=>by unfold World.frozen?;rw [h];simp
 refine ⟨?_,?_,?_,?_,?_,f 0,f 1,f 2,f 3,f 4⟩ <;> (unfold World.cell?;rw [h];rfl)
theorem pre_t {w1 w2:World} {n b N cap:Nat} (t1:w1.cell? ⟨n,0,none⟩=some (.slice (some ⟨b,0,none⟩) N cap)) (hn:n+2≤w1.heap.size) (h:Below (w1.drew).heap.size (w1.drew) w2):w2.cell? ⟨n,0,none⟩=some (.slice (some ⟨b,0,none⟩) N cap) :=
 (h.cell (p:=⟨n,0,none⟩) (by show n < w1.heap.size;omega)).trans t1
theorem pre_t1 {w1 w2:World} {O:Obj} {n b N cap:Nat} (t1:w1.cell? ⟨n,0,none⟩=some (.slice (some ⟨b,0,none⟩) N cap)) (hn:n+2≤w1.heap.size) (h:Below ((w1.alloc O).drew).heap.size ((w1.alloc O).drew) w2):w2.cell? ⟨n,0,none⟩=some (.slice (some ⟨b,0,none⟩) N cap) :=
 (h.cell (p:=⟨n,0,none⟩) (by show n < (w1.alloc O).heap.size;simp;omega)).trans ((cell_alloc_lt w1 O _ _ (by omega)).trans t1)
theorem pre_t2 {w1 w2:World} {O O':Obj} {n b N cap:Nat} (t1:w1.cell? ⟨n,0,none⟩=some (.slice (some ⟨b,0,none⟩) N cap)) (hn:n+2≤w1.heap.size) (h:Below (((w1.alloc O).alloc O').drew).heap.size (((w1.alloc O).alloc O').drew) w2):w2.cell? ⟨n,0,none⟩=some (.slice (some ⟨b,0,none⟩) N cap) :=
 (h.cell (p:=⟨n,0,none⟩) (by show n < ((w1.alloc O).alloc O').heap.size;simp;omega)).trans ((cell_alloc_lt (w1.alloc O) O' _ _ (by simp;omega)).trans ((cell_alloc_lt w1 O _ _ (by omega)).trans t1))
theorem five_more {W:World} {bb:Nat} (h:Five0 W bb) (O:Obj):Five0 (W.alloc O) bb:=by
 have hl:=World.block_lt_of_cell? W _ h.c0
 have f:∀ i,(W.alloc O).frozen? ⟨bb,i,none⟩=W.frozen? ⟨bb,i,none⟩:=fun i=>by unfold World.frozen?;rw [Below.heap_alloc _ _ _ hl]
 have c:∀ i,(W.alloc O).cell? ⟨bb,i,none⟩=W.cell? ⟨bb,i,none⟩:=fun i=>by unfold World.cell?;rw [Below.heap_alloc _ _ _ hl]
 exact ⟨(c _).trans h.c0,(c _).trans h.c1,(c _).trans h.c2,(c _).trans h.c3,(c _).trans h.c4,(f _).trans h.f0,(f _).trans h.f1,(f _).trans h.f2,(f _).trans h.f3,(f _).trans h.f4⟩
theorem pre_b {w1 w2:World} (h:Below ((w1.alloc (.cells #[.slice none 0 0,.slice none 0 0,.slice none 0 0,.int .i64 0,.int .i64 0] 71)).drew).heap.size ((w1.alloc (.cells #[.slice none 0 0,.slice none 0 0,.slice none 0 0,.int .i64 0,.int .i64 0] 71)).drew) w2):w1.heap.size < w2.heap.size∧Five0 w2 w1.heap.size :=
 ⟨by have:=h.size;simp at this;omega,five0 ((h.block _ (by simp)).trans (heap_alloc_new w1 _))⟩
theorem pre_bm {w1 w2:World} {N:Nat} (h:Below (((w1.alloc (.cells #[.slice none 0 0,.slice none 0 0,.slice none 0 0,.int .i64 0,.int .i64 0] 71)).alloc (.cells (madeCells #[.int .i64 0] N) 3)).drew).heap.size (((w1.alloc (.cells #[.slice none 0 0,.slice none 0 0,.slice none 0 0,.int .i64 0,.int .i64 0] 71)).alloc (.cells (madeCells #[.int .i64 0] N) 3)).drew) w2):w1.heap.size < w2.heap.size∧Five0 w2 w1.heap.size :=
 ⟨by have:=h.size;simp at this;omega,five0 ((h.block _ (by simp;omega)).trans ((Below.heap_alloc _ _ _ (by simp)).trans (heap_alloc_new w1 _)))⟩
theorem pre_mb {w1 w2:World} {N:Nat} (h:Below (((w1.alloc (.cells (madeCells #[.int .i64 0] N) 3)).alloc (.cells #[.slice none 0 0,.slice none 0 0,.slice none 0 0,.int .i64 0,.int .i64 0] 71)).drew).heap.size (((w1.alloc (.cells (madeCells #[.int .i64 0] N) 3)).alloc (.cells #[.slice none 0 0,.slice none 0 0,.slice none 0 0,.int .i64 0,.int .i64 0] 71)).drew) w2):w1.heap.size+1 < w2.heap.size∧Five0 w2 (w1.heap.size+1) :=
 ⟨by have:=h.size;simp at this;omega,five0 ((h.block _ (by simp)).trans (by have:=heap_alloc_new (w1.alloc (.cells (madeCells #[.int .i64 0] N) 3)) (.cells #[.slice none 0 0,.slice none 0 0,.slice none 0 0,.int .i64 0,.int .i64 0] 71);rwa [World.size_alloc] at this))⟩
theorem five_set {W:World} {bb:Nat} {x y z u v a b c d e:Value} {t:TypeId} (h:W.heap[bb]?=some (.cells #[x,y,z,u,v] t (0,0))):(((((W.setCell ⟨bb,0,none⟩ a).setCell ⟨bb,1,none⟩ b).setCell ⟨bb,2,none⟩ c).setCell ⟨bb,3,none⟩ d).setCell ⟨bb,4,none⟩ e).heap[bb]?=some (.cells #[a,b,c,d,e] t (0,0)):=by
 rw [set_atC e (set_atC d (set_atC c (set_atC b (set_atC a h))))]
 rfl
theorem set5_ne {W:World} {bb k:Nat} {a b c d e:Value} (h:k≠bb):(((((W.setCell ⟨bb,0,none⟩ a).setCell ⟨bb,1,none⟩ b).setCell ⟨bb,2,none⟩ c).setCell ⟨bb,3,none⟩ d).setCell ⟨bb,4,none⟩ e).heap[k]?=W.heap[k]?:=by
 rw [Below.heap_setCell _ _ _ _ h,Below.heap_setCell _ _ _ _ h,Below.heap_setCell _ _ _ _ h,Below.heap_setCell _ _ _ _ h,Below.heap_setCell _ _ _ _ h]
theorem end1 {nd:Nat→Nd} {o:List (List Nat)} {N b cap gk:Nat} {w1 w2:World} (hN:1≤N) (hb2:Below (w1.drew).heap.size (w1.drew) w2) (hgk:(w1.drew).heap.size≤gk) (hkg:KG w2 gk N o) (hkb:∀ i,i < N→∀ g n c,w2.cell? ⟨gk,i,none⟩=some (.slice (some ⟨g,0,none⟩) n c)→(w1.drew).heap.size≤g):BoxR nd o N b cap w1 (.pointer (some ⟨w2.heap.size+1,0,none⟩)) ((w2.alloc (.cells (madeCells #[.int .i64 0] N) 3)).alloc (.cells #[.slice (some ⟨b,0,none⟩) N cap,.slice (some ⟨gk,0,none⟩) N N,.slice (some ⟨w2.heap.size,0,none⟩) N N,.int .i64 0,.int .i64 0] 71)):=by
 have hz:w1.heap.size≤w2.heap.size:=hb2.size
 refine box_end (w2:=w2) (w2.heap.size+1) w2.heap.size gk hN (Below.refl _ w1).drew hgk hkg hkb hb2 ⟨by omega,.inr (by omega)⟩ ⟨hz,.inr (Nat.le_refl _)⟩ (by omega) ?_ ?_ ?_
 ·exact ((Sv.refl _ w2).alloc _).alloc _
 ·have:=heap_alloc_new (w2.alloc (.cells (madeCells #[.int .i64 0] N) 3)) (.cells #[.slice (some ⟨b,0,none⟩) N cap,.slice (some ⟨gk,0,none⟩) N N,.slice (some ⟨w2.heap.size,0,none⟩) N N,.int .i64 0,.int .i64 0] 71)
  rwa [World.size_alloc] at this
 ·exact (Below.heap_alloc _ _ _ (by simp)).trans (heap_alloc_new w2 _)
theorem end2 {nd:Nat→Nd} {o:List (List Nat)} {N b cap gk:Nat} {w1 w2:World} (hN:1≤N) (hb2:Below (w1.drew).heap.size (w1.drew) w2) (hgk:(w1.drew).heap.size≤gk) (hkg:KG w2 gk N o) (hkb:∀ i,i < N→∀ g n c,w2.cell? ⟨gk,i,none⟩=some (.slice (some ⟨g,0,none⟩) n c)→(w1.drew).heap.size≤g):BoxR nd o N b cap w1 (.pointer (some ⟨w2.heap.size,0,none⟩)) ((w2.alloc (.cells #[.slice (some ⟨b,0,none⟩) N cap,.slice (some ⟨gk,0,none⟩) N N,.slice (some ⟨w2.heap.size+1,0,none⟩) N N,.int .i64 0,.int .i64 0] 71)).alloc (.cells (madeCells #[.int .i64 0] N) 3)):=by
 have hz:w1.heap.size≤w2.heap.size:=hb2.size
 refine box_end (w2:=w2) w2.heap.size (w2.heap.size+1) gk hN (Below.refl _ w1).drew hgk hkg hkb hb2 ⟨hz,.inr (Nat.le_refl _)⟩ ⟨by omega,.inr (by omega)⟩ (by omega) ?_ ?_ ?_
 ·exact ((Sv.refl _ w2).alloc _).alloc _
 ·exact (Below.heap_alloc _ _ _ (by simp)).trans (heap_alloc_new w2 _)
 ·have:=heap_alloc_new (w2.alloc (.cells #[.slice (some ⟨b,0,none⟩) N cap,.slice (some ⟨gk,0,none⟩) N N,.slice (some ⟨w2.heap.size+1,0,none⟩) N N,.int .i64 0,.int .i64 0] 71)) (.cells (madeCells #[.int .i64 0] N) 3)
  rwa [World.size_alloc] at this
theorem end3 {nd:Nat→Nd} {o:List (List Nat)} {N b cap gk:Nat} {w1 w2:World} (hN:1≤N) (hb2:Below ((w1.alloc (.cells (madeCells #[.int .i64 0] N) 3)).drew).heap.size ((w1.alloc (.cells (madeCells #[.int .i64 0] N) 3)).drew) w2) (hgk:((w1.alloc (.cells (madeCells #[.int .i64 0] N) 3)).drew).heap.size≤gk) (hkg:KG w2 gk N o) (hkb:∀ i,i < N→∀ g n c,w2.cell? ⟨gk,i,none⟩=some (.slice (some ⟨g,0,none⟩) n c)→((w1.alloc (.cells (madeCells #[.int .i64 0] N) 3)).drew).heap.size≤g):BoxR nd o N b cap w1 (.pointer (some ⟨w2.heap.size,0,none⟩)) (w2.alloc (.cells #[.slice (some ⟨b,0,none⟩) N cap,.slice (some ⟨gk,0,none⟩) N N,.slice (some ⟨w1.heap.size,0,none⟩) N N,.int .i64 0,.int .i64 0] 71)):=by
 have hz:w1.heap.size+1≤w2.heap.size:=by have:=hb2.size;simpa using this
 refine box_end (w2:=w2) w2.heap.size w1.heap.size gk hN ((Below.refl _ w1).alloc (Nat.le_refl _) _).drew hgk hkg hkb hb2 ⟨by omega,.inr (Nat.le_refl _)⟩ ⟨Nat.le_refl _,.inl (by simp)⟩ (by omega) ?_ ?_ ?_
 ·exact (Sv.refl _ w2).alloc _
 ·exact heap_alloc_new w2 _
 ·exact (Below.heap_alloc _ _ _ (by omega)).trans ((hb2.block _ (by simp)).trans (heap_alloc_new w1 _))
theorem end4 {nd:Nat→Nd} {o:List (List Nat)} {N b cap gk:Nat} {w1 w2:World} (hN:1≤N) (hb2:Below (((w1.alloc (.cells (madeCells #[.int .i64 0] N) 3)).alloc (.cells #[.slice none 0 0,.slice none 0 0,.slice none 0 0,.int .i64 0,.int .i64 0] 71)).drew).heap.size (((w1.alloc (.cells (madeCells #[.int .i64 0] N) 3)).alloc (.cells #[.slice none 0 0,.slice none 0 0,.slice none 0 0,.int .i64 0,.int .i64 0] 71)).drew) w2) (hgk:(((w1.alloc (.cells (madeCells #[.int .i64 0] N) 3)).alloc (.cells #[.slice none 0 0,.slice none 0 0,.slice none 0 0,.int .i64 0,.int .i64 0] 71)).drew).heap.size≤gk) (hkg:KG w2 gk N o) (hkb:∀ i,i < N→∀ g n c,w2.cell? ⟨gk,i,none⟩=some (.slice (some ⟨g,0,none⟩) n c)→(((w1.alloc (.cells (madeCells #[.int .i64 0] N) 3)).alloc (.cells #[.slice none 0 0,.slice none 0 0,.slice none 0 0,.int .i64 0,.int .i64 0] 71)).drew).heap.size≤g):BoxR nd o N b cap w1 (.pointer (some ⟨w1.heap.size+1,0,none⟩)) ((((((w2.setCell ⟨w1.heap.size+1,0,none⟩ (.slice (some ⟨b,0,none⟩) N cap)).setCell ⟨w1.heap.size+1,1,none⟩ (.slice (some ⟨gk,0,none⟩) N N)).setCell ⟨w1.heap.size+1,2,none⟩ (.slice (some ⟨w1.heap.size,0,none⟩) N N)).setCell ⟨w1.heap.size+1,3,none⟩ (.int .i64 0)).setCell ⟨w1.heap.size+1,4,none⟩ (.int .i64 0))):=by
 have hz:w1.heap.size+1+1≤w2.heap.size:=by have:=hb2.size;simpa using this
 refine box_end (w2:=w2) (w1.heap.size+1) w1.heap.size gk hN (((Below.refl _ w1).alloc (Nat.le_refl _) _).alloc (by simp) _).drew hgk hkg hkb hb2 ⟨by omega,.inl (by simp)⟩ ⟨Nat.le_refl _,.inl (by simp;omega)⟩ (by omega) ?_ ?_ ?_
 ·exact ((((((Sv.refl _ w2).setCell (p:=⟨w1.heap.size+1,0,none⟩) (.inl (.inl rfl)) _).setCell (p:=⟨w1.heap.size+1,1,none⟩) (.inl (.inl rfl)) _).setCell (p:=⟨w1.heap.size+1,2,none⟩) (.inl (.inl rfl)) _).setCell (p:=⟨w1.heap.size+1,3,none⟩) (.inl (.inl rfl)) _).setCell (p:=⟨w1.heap.size+1,4,none⟩) (.inl (.inl rfl)) _)
 ·refine five_set ((hb2.block _ (by simp)).trans (?_:_=some (Obj.cells #[.slice none 0 0,.slice none 0 0,.slice none 0 0,.int .i64 0,.int .i64 0] 71)))
  have:=heap_alloc_new (w1.alloc (.cells (madeCells #[.int .i64 0] N) 3)) (.cells #[.slice none 0 0,.slice none 0 0,.slice none 0 0,.int .i64 0,.int .i64 0] 71)
  rwa [World.size_alloc] at this
 ·exact (set5_ne (by omega)).trans ((hb2.block _ (by simp;omega)).trans ((Below.heap_alloc _ _ _ (by simp)).trans (heap_alloc_new w1 _)))
theorem end5 {nd:Nat→Nd} {o:List (List Nat)} {N b cap gk:Nat} {w1 w2:World} (hN:1≤N) (hb2:Below ((w1.alloc (.cells #[.slice none 0 0,.slice none 0 0,.slice none 0 0,.int .i64 0,.int .i64 0] 71)).drew).heap.size ((w1.alloc (.cells #[.slice none 0 0,.slice none 0 0,.slice none 0 0,.int .i64 0,.int .i64 0] 71)).drew) w2) (hgk:((w1.alloc (.cells #[.slice none 0 0,.slice none 0 0,.slice none 0 0,.int .i64 0,.int .i64 0] 71)).drew).heap.size≤gk) (hkg:KG w2 gk N o) (hkb:∀ i,i < N→∀ g n c,w2.cell? ⟨gk,i,none⟩=some (.slice (some ⟨g,0,none⟩) n c)→((w1.alloc (.cells #[.slice none 0 0,.slice none 0 0,.slice none 0 0,.int .i64 0,.int .i64 0] 71)).drew).heap.size≤g):BoxR nd o N b cap w1 (.pointer (some ⟨w1.heap.size,0,none⟩)) ((((((w2.setCell ⟨w1.heap.size,0,none⟩ (.slice (some ⟨b,0,none⟩) N cap)).setCell ⟨w1.heap.size,1,none⟩ (.slice (some ⟨gk,0,none⟩) N N)).setCell ⟨w1.heap.size,2,none⟩ (.slice (some ⟨w2.heap.size,0,none⟩) N N)).setCell ⟨w1.heap.size,3,none⟩ (.int .i64 0)).setCell ⟨w1.heap.size,4,none⟩ (.int .i64 0)).alloc (.cells (madeCells #[.int .i64 0] N) 3)):=by
 have hz:w1.heap.size+1≤w2.heap.size:=by have:=hb2.size;simpa using this
 refine box_end (w2:=w2) w1.heap.size w2.heap.size gk hN ((Below.refl _ w1).alloc (Nat.le_refl _) _).drew hgk hkg hkb hb2 ⟨Nat.le_refl _,.inl (by simp)⟩ ⟨by omega,.inr (Nat.le_refl _)⟩ (by omega) ?_ ?_ ?_
 ·exact Sv.alloc ((((((Sv.refl _ w2).setCell (p:=⟨w1.heap.size,0,none⟩) (.inl (.inl rfl)) _).setCell (p:=⟨w1.heap.size,1,none⟩) (.inl (.inl rfl)) _).setCell (p:=⟨w1.heap.size,2,none⟩) (.inl (.inl rfl)) _).setCell (p:=⟨w1.heap.size,3,none⟩) (.inl (.inl rfl)) _).setCell (p:=⟨w1.heap.size,4,none⟩) (.inl (.inl rfl)) _) _
 ·exact (Below.heap_alloc _ _ _ (by simp;omega)).trans (five_set ((hb2.block _ (by simp)).trans (heap_alloc_new w1 _)))
 ·have:=heap_alloc_new (((((w2.setCell ⟨w1.heap.size,0,none⟩ (.slice (some ⟨b,0,none⟩) N cap)).setCell ⟨w1.heap.size,1,none⟩ (.slice (some ⟨gk,0,none⟩) N N)).setCell ⟨w1.heap.size,2,none⟩ (.slice (some ⟨w2.heap.size,0,none⟩) N N)).setCell ⟨w1.heap.size,3,none⟩ (.int .i64 0)).setCell ⟨w1.heap.size,4,none⟩ (.int .i64 0)) (.cells (madeCells #[.int .i64 0] N) 3)
  simpa using this
theorem end6 {nd:Nat→Nd} {o:List (List Nat)} {N b cap gk:Nat} {w1 w2:World} (hN:1≤N) (hb2:Below (((w1.alloc (.cells #[.slice none 0 0,.slice none 0 0,.slice none 0 0,.int .i64 0,.int .i64 0] 71)).alloc (.cells (madeCells #[.int .i64 0] N) 3)).drew).heap.size (((w1.alloc (.cells #[.slice none 0 0,.slice none 0 0,.slice none 0 0,.int .i64 0,.int .i64 0] 71)).alloc (.cells (madeCells #[.int .i64 0] N) 3)).drew) w2) (hgk:(((w1.alloc (.cells #[.slice none 0 0,.slice none 0 0,.slice none 0 0,.int .i64 0,.int .i64 0] 71)).alloc (.cells (madeCells #[.int .i64 0] N) 3)).drew).heap.size≤gk) (hkg:KG w2 gk N o) (hkb:∀ i,i < N→∀ g n c,w2.cell? ⟨gk,i,none⟩=some (.slice (some ⟨g,0,none⟩) n c)→(((w1.alloc (.cells #[.slice none 0 0,.slice none 0 0,.slice none 0 0,.int .i64 0,.int .i64 0] 71)).alloc (.cells (madeCells #[.int .i64 0] N) 3)).drew).heap.size≤g):BoxR nd o N b cap w1 (.pointer (some ⟨w1.heap.size,0,none⟩)) ((((((w2.setCell ⟨w1.heap.size,0,none⟩ (.slice (some ⟨b,0,none⟩) N cap)).setCell ⟨w1.heap.size,1,none⟩ (.slice (some ⟨gk,0,none⟩) N N)).setCell ⟨w1.heap.size,2,none⟩ (.slice (some ⟨w1.heap.size+1,0,none⟩) N N)).setCell ⟨w1.heap.size,3,none⟩ (.int .i64 0)).setCell ⟨w1.heap.size,4,none⟩ (.int .i64 0))):=by
 have hz:w1.heap.size+1+1≤w2.heap.size:=by have:=hb2.size;simpa using this
 refine box_end (w2:=w2) w1.heap.size (w1.heap.size+1) gk hN (((Below.refl _ w1).alloc (Nat.le_refl _) _).alloc (by simp) _).drew hgk hkg hkb hb2 ⟨Nat.le_refl _,.inl (by simp;omega)⟩ ⟨by omega,.inl (by simp)⟩ (by omega) ?_ ?_ ?_
 ·exact ((((((Sv.refl _ w2).setCell (p:=⟨w1.heap.size,0,none⟩) (.inl (.inl rfl)) _).setCell (p:=⟨w1.heap.size,1,none⟩) (.inl (.inl rfl)) _).setCell (p:=⟨w1.heap.size,2,none⟩) (.inl (.inl rfl)) _).setCell (p:=⟨w1.heap.size,3,none⟩) (.inl (.inl rfl)) _).setCell (p:=⟨w1.heap.size,4,none⟩) (.inl (.inl rfl)) _)
 ·exact five_set ((hb2.block _ (by simp;omega)).trans ((Below.heap_alloc _ _ _ (by simp)).trans (heap_alloc_new w1 _)))
 ·refine (set5_ne (by omega)).trans ((hb2.block _ (by simp)).trans ?_)
  have:=heap_alloc_new (w1.alloc (.cells #[.slice none 0 0,.slice none 0 0,.slice none 0 0,.int .i64 0,.int .i64 0] 71)) (.cells (madeCells #[.int .i64 0] N) 3)
  rwa [World.size_alloc] at this
theorem cell_set_ne {W:World} {g i n:Nat} {v:Value} (h:n≠g):(W.setCell ⟨g,i,none⟩ v).cell? ⟨n,0,none⟩=W.cell? ⟨n,0,none⟩:=by
 unfold World.cell?
 rw [Below.heap_setCell _ _ _ _ h]
theorem box_ok {nd:Nat→Nd} {o:List (List Nat)} {N b cap gk bb gm xx:Nat} (hne:bb≠gm) (hN2:N≤5000) (hx:∀ i,i < N→(nd i).text.size≤maxLen) (ho:kidsF nd N=some (o,[xx])) (hf:∀ i,i < N→FitAt nd o i) (h1:b≠bb) (h2:b≠gm) (h3:gk≠bb) (h4:gk≠gm):(Bx.mk bb gm b N cap gk nd o).Ok:=by
 refine ⟨hne,hN2,hx,down_of ho,fun k hk=>fits_kidded hf k hk,(kidsF_len nd _ _ _ ho).1,?_,?_,kids_len5 ho hN2,kids_placeN ho,hf⟩
 ·rintro (h | h)
  ·exact h1 h
  ·exact h2 h
 ·rintro (h | h)
  ·exact h3 h
  ·exact h4 h
theorem walk_top (x:Bx) (hx:x.Ok) (hN:1≤x.N) (h24:(x.nd (x.N - 1)).kind=24) (z:Int) (hz:z=((x.N - 1:Nat):Int)) (a:Option Addr) (bn:Nat→Int) (w:World) (h:x.At w bn 0 0) (ht:Stb x.S w x.Tree) (hk:Kn x.S w (.pointer a) builtEnv) :
  Calls Tryz.prog 36 #[.pointer (some ⟨x.bb,0,none⟩),.int .i64 z,.pointer a] w fun e w'=>e=.returned (.tuple #[])∧x.Ends w w' bn (0,0) (treeE x.nd x.o x.N):=by
 subst hz
 exact walk_root x hx (x.N - 1) (by omega) h24 builtEnv a bn (0,0) w h ht hk
theorem apB_at (es:List Ev) (f g:Nat→Int) (i:Nat) (h:f i=g i):apB f es i=apB g es i:=by
 induction es generalizing f g with
 | nil=>exact h
 | cons e es ih =>
  cases e with
  | bind k v =>
   refine ih _ _ ?_
   by_cases e:i=k
   ·rw [if_pos e,if_pos e]
   ·rw [if_neg e,if_neg e];exact h
  | flt k c=>exact ih _ _ h
theorem ft_stay (c k:Int) (hc:c≠0) (l:List (Nat × Nat)):ft (c,k) l=(c,k):=by
 induction l with
 | nil=>rfl
 | cons y l ih =>
  obtain ⟨q,d⟩:=y
  show ft (if c=0 then _ else (c,k)) l=_
  rw [if_neg hc]
  exact ih
theorem ft_first (k c:Nat) (hc:c≠0) (l:List (Nat × Nat)):ft (0,0) ((k,c) :: l)=((c:Int),(k:Int)):=by
 show ft (if (0:Int)=0 then ((c:Int),(k:Int)) else (0,0)) l=_
 rw [if_pos rfl]
 exact ft_stay _ _ (by omega) l
theorem at_set {x:Bx} {W:World} {j:Nat} (hne:x.bb≠x.gb) (h:x.At W (fun i=>if i < j then -1 else 0) 0 0) (hj:j < x.N):x.At (W.setCell ⟨x.gb,j,none⟩ (.int .i64 (-1))) (fun i=>if i < j+1 then -1 else 0) 0 0:=by
 refine ⟨(Below.heap_setCell _ _ _ _ hne).trans h.1,?_⟩
 have:=h.2.set j hj (-1)
 have e:(fun i=>if i=j then (-1:Int) else if i < j then -1 else 0)=fun i=>if i < j+1 then -1 else 0:=by
  funext i
  by_cases h1:i=j
  ·rw [if_pos h1,if_pos (by omega)]
  ·rw [if_neg h1]
   by_cases h2:i < j
   ·rw [if_pos h2,if_pos (by omega)]
   ·rw [if_neg h2,if_neg (by omega)]
 rw [e] at this
 exact this
end Go.Proofs.YthnohneaanphbaaGreatDoor
namespace Go.Proofs.YthnohneaanphbaaGreatDoor
theorem ext_some (L:List (ByteArray × Nat)) (kn:Env) (t:ByteArray):(∃ p ∈ L,p.1=t∧(L.foldl (fun kn p=>kn.ext p.1 p.2) kn) t=(p.2:Int))∨((∀ p ∈ L,¬ (p.1=t))∧(L.foldl (fun kn p=>kn.ext p.1 p.2) kn) t=kn t):=by
 induction L generalizing kn with
 | nil=>exact .inr ⟨fun p hp=>(by cases hp),rfl⟩
 | cons p L ih =>
  rw [List.foldl_cons]
  rcases ih (kn.ext p.1 p.2) with ⟨q,hq,e1,e2⟩ | ⟨h1,h2⟩
  ·exact .inl ⟨q,by simp [hq],e1,e2⟩
  ·rw [h2]
   unfold Env.ext
   by_cases h:t=p.1
   ·exact .inl ⟨p,by simp,h.symm,by rw [if_pos h]⟩
   ·refine .inr ⟨fun q hq=>?_,by rw [if_neg h]⟩
    rcases List.mem_cons.1 hq with e | e
    ·subst e;exact fun e=>h e.symm
    ·exact h1 q e
theorem apB_flts (es:List Ev) (bn:Nat→Int) (h:∀ e ∈ es,∃ k c,e=.flt k c):apB bn es=bn:=by
 induction es with
 | nil=>rfl
 | cons e es ih =>
  obtain ⟨k,c,rfl⟩:=h e (by simp)
  show apB bn es=bn
  exact ih fun e he=>h e (by simp [he])
theorem mksE_flts (nd:Nat→Nd) (o:List (List Nat)) (s:Nat) (kn:Env):∀ e ∈ mksE nd o s kn,∃ k c,e=.flt k c:=by
 intro e he
 rw [mksE_flat] at he
 obtain ⟨m,_,hm⟩:=List.mem_flatMap.1 he
 unfold mkE at hm
 split at hm
 ·cases hm
 ·exact ⟨_,_,by simpa using hm⟩
theorem madeE_flts (nd:Nat→Nd) (ms:List Nat) (n:Nat):∀ e ∈ madeE nd ms n,∃ k c,e=.flt k c:=by
 intro e he
 unfold madeE at he
 obtain ⟨m,_,hm⟩:=List.mem_flatMap.1 he
 unfold flt8 at hm
 split at hm
 ·exact ⟨_,_,by simpa using hm⟩
 ·cases hm
theorem apB_flat (l:List Nat) (f g:Nat→List Ev) (hg:∀ s ∈ l,∀ e ∈ g s,∃ k c,e=.flt k c) (bn:Nat→Int):apB bn (l.flatMap fun s=>f s ++ g s)=apB bn (l.flatMap f):=by
 induction l generalizing bn with
 | nil=>rfl
 | cons s l ih =>
  rw [List.flatMap_cons,List.flatMap_cons,apB_append,apB_append,apB_append,apB_flts _ _ (hg s (by simp))]
  exact ih (fun s hs=>hg s (by simp [hs])) _
theorem env_eq {nd:Nat→Nd} {N:Nat} {o:List (List Nat)} {S:List Nat} (_h:kidsF nd N=some (o,S)) (h0:fls (treeE nd o N)=[]):fileEnv nd o (o.getD (N - 1) []) builtEnv=envL (knOf nd ((o.getD (N - 1) []).flatMap (makersOf nd o))):=by
 funext t
 unfold treeE at h0
 rw [fls_flatMap] at h0
 generalize o.getD (N - 1) []=ks at *
 have hm:∀ m ∈ ks.flatMap (makersOf nd o),fileEnv nd o ks builtEnv (nd m).text=(m:Int):=fun m hm=>by
  obtain ⟨s,hs,hm⟩:=List.mem_flatMap.1 hm
  have h1:=List.flatMap_eq_nil_iff.1 h0 s hs
  rw [fls_append] at h1
  have h2:=(List.append_eq_nil_iff.1 h1).2
  rw [mksE_flat,fls_flatMap] at h2
  have h3:=List.flatMap_eq_nil_iff.1 h2 m hm
  unfold mkE at h3
  split at h3
  ·assumption
  ·simp [fls] at h3
 rcases ext_some (knOf nd (ks.flatMap (makersOf nd o))) builtEnv t with ⟨p,hp,e1,e2⟩ | ⟨h1,h2⟩
 ·unfold envL
  rw [e2]
  unfold knOf at hp
  obtain ⟨m,hmm,rfl⟩:=List.mem_map.1 hp
  simp only at e1
  rw [← e1]
  exact hm m hmm
 ·unfold envL
  rw [h2]
  unfold fileEnv
  rw [fileF_find]
  have:(ks.flatMap (makersOf nd o)).find? (fun m=>decide ((nd m).text=t))=none:=by
   rw [List.find?_eq_none]
   intro m hmm
   have:=h1 ((nd m).text,m) (by unfold knOf;exact List.mem_map.2 ⟨m,hmm,rfl⟩)
   simpa using this
  rw [this]
  rfl
theorem binds_same {nd:Nat→Nd} {N:Nat} {o:List (List Nat)} {S:List Nat} (h:kidsF nd N=some (o,S)) (hN:1≤N) (hfit:∀ i,i < N→FitAt nd o i) (h24:(nd (N - 1)).kind=24) (h0:fls (treeE nd o N)=[]) (bn:Nat→Int):apB bn (treeE nd o N)=apB bn (lookE nd o N):=by
 have he:=env_eq h h0
 unfold treeE lookE
 rw [apB_append,apB_flts _ _ (madeE_flts _ _ _),apB_flat _ _ _ (fun s _=>mksE_flts nd o s _),wk_root h hN hfit h24,he]
end Go.Proofs.YthnohneaanphbaaGreatDoor
namespace Go.Proofs.YthnohneaanphbaaGreatDoor
open Go.RowKit
set_option maxRecDepth 20000
theorem ndRow_take (O:List Nd) (k:Nat):(ndRow O).take (k * 5)=ndRow (O.take k):=by
 induction k generalizing O with
 | zero=>simp [ndRow]
 | succ k ih =>
  cases O with
  | nil=>simp [ndRow]
  | cons x O =>
   rw [ndRow_cons,List.take_succ_cons,ndRow_cons,show (k+1) * 5=(ndF x).length+k * 5 by show (k+1) * 5=5+k * 5;omega,List.take_length_add_append,ih]
theorem own_take {w:World} {B g m cap n:Nat} {O:List Nd} (h:w.ownsRow B 35 5 (.slice (some ⟨g,0,none⟩) m cap) m (ndRow O)) (hO:O.length=m) (hn:n≤m):w.ownsRow B 35 5 (.slice (some ⟨g,0,none⟩) n cap) n (ndRow (O.take n)):=by
 obtain ⟨_,⟨e,_⟩ | ⟨g',cap',cur,e,h1,h2,h3,h4,h5,h6⟩⟩:=h
 ·cases e
 ·cases e
  refine ⟨by rw [ndRow_length,List.length_take,hO];congr 1;omega,.inr ⟨g,cap,cur,rfl,h1,h2,by omega,h4,h5,?_⟩⟩
  rw [← ndRow_take,← h6,List.take_take]
  congr 1
  omega
theorem Ad.row {s:Ds} {ov1:Value} {w1:World} {B m p n:Nat} {v:Value} {L:List Nd} {bad:Bool} {w:World} (h:Ad s ov1 w1 p bad n w) (hr:w1.ownsRow B 35 5 v m (ndRow L)) (hD:s.D < B) (ho:∀ k,ov1.ownBlock=some k→k < B):w.ownsRow B 35 5 v m (ndRow L):=by
 obtain ⟨ov,_,b⟩:=h
 refine own_keepD hr fun k cur e hc=>b.sv.block k (Array.getElem?_eq_some_iff.1 hc).1 fun e2=>?_
 have hk:=(own_loD hr k e).1
 rcases e2 with e2 | e2
 ·omega
 ·have:=ho k e2
  omega
theorem Dk.sl {s:Ds} {p n:Nat} {bad:Bool} {ov:Value} {w:World} (h:Dk s p bad n ov w):∃ O:List Nd,O.length=n∧(∀ x ∈ O,x.text.size≤1000)∧w.ownsRow s.B 35 5 ov n (ndRow O)∧((ov=.slice none 0 0∧n=0)∨∃ g cap,ov=.slice (some ⟨g,0,none⟩) n cap∧n≤cap∧g < w.heap.size∧RowIn w g O):=by
 obtain ⟨O,h1,h2,h3⟩:=h.out
 refine ⟨O,h1,h3,h2,?_⟩
 rcases h2.2 with ⟨e,h0⟩ | ⟨g,cap,cur,e,_,b,c,_,_,d⟩
 ·exact .inl ⟨e,h0⟩
 ·refine .inr ⟨g,cap,e,c,(Array.getElem?_eq_some_iff.1 b).1,cur,b,fun j u hu=>?_⟩
  rw [← d] at hu
  have hj:=(List.getElem?_eq_some_iff.1 hu).1
  rw [List.length_take] at hj
  rw [List.getElem?_take_of_lt (by omega)] at hu
  simpa using hu
theorem own_some {w:World} {B e size n:Nat} {v:Value} {xs:List Value} (h:w.ownsRow B e size v n xs) (hv:v≠.slice none 0 0):∃ g cap,v=.slice (some ⟨g,0,none⟩) n cap:=by
 rcases h.2 with ⟨e,_⟩ | ⟨g,cap,cur,e,_⟩
 ·exact absurd e hv
 ·exact ⟨g,cap,e⟩
set_option maxHeartbeats 32000000 in
theorem list_at {s:Ds} {ov0:Value} {w0:World} {p n:Nat} {bad:Bool} {w:World} (hE:∀ q,p≤q→EOk9 s q) (h:Ad s ov0 w0 p bad n w) (hl:n+2 * s.T≤400000+2 * p) :
  Calls Tryz.prog 130 #[.pointer (some ⟨s.D,0,none⟩)] w (DE 1 s ov0 w0 p n):=by
 obtain ⟨i0,hi0,hz0,hz1,hz2⟩:=info_parts info_nd9
 have HHI:=hid (And.intro hi0 (And.intro hz0 (And.intro hz1 hz2)))
 clear hi0 hz0 hz1 hz2
 have HA0:=hid h
 have hT:=h.pT.2
 clear h
 go_enter Tryz.func130,Tryz.ntmps130
 go_wp2_with fail
 refine (take_at HA0.out _).mono ?_
 rintro e w1 (⟨rfl,l1,a1⟩ | ⟨rfl,a1⟩)
 ·have HA1:=hid a1
  clear a1 HA0
  go_wp2_with fail
  refine (put_at9 HA1.out ⟨8,0,0,⟨#[]⟩,0⟩ (by show (⟨#[]⟩:ByteArray).size≤1000;decide) (by omega)).mono ?_
  rintro e w2 ⟨rfl,a2⟩
  have HA2:=hid a2
  clear a2 HA1
  go_wp2
  exact bodyPost_ret (results_none rfl _ _ _) rfl ⟨rfl,(p+1),false,(n+1),by omega,by omega,by omega,HA2.out⟩
 ·have HA1:=hid a1
  have hs1:∃ va vc,w1.cell? ⟨s.D,5,none⟩=some (.slice va n vc):=by
   obtain ⟨ov,h1,_⟩:=a1
   obtain ⟨O,_,h8,_⟩:=h1.out
   obtain ⟨va,vc,rfl⟩:=own_sl h8
   exact ⟨va,vc,h1.cells.2.2.2.2⟩
  obtain ⟨va,vc,c5⟩:=hs1
  clear a1 HA0
  go_wp2_with fail
  refine (hE p (by omega) _ _ _ _ _ HA1.out (by have:=HA1.out.pT;omega)).mono ?_
  rintro e w2 ⟨rfl,p2,b2,n2,l2a,l2b,l2c,a2⟩
  have HA2:=hid a2
  clear a2 HA1 c5
  go_wp2_with fail
  refine (take_at HA2.out _).mono ?_
  rintro e w3 (⟨rfl,l3,a3⟩ | ⟨rfl,a3⟩)
  ·obtain ⟨ov3,hd3,ht3⟩:=a3
   have HD3:=hid hd3
   have HT3:=hid ht3
   have hDw:=hd3.lt
   have HAL:=hid ((Below.refl w3.heap.size w3).alloc (Nat.le_refl _) (.cells #[] 35))
   have HDA:=hid (hd3.next HAL.out)
   obtain ⟨O,hO,hOx,how,hcase⟩:=HDA.out.sl
   have hsl3:=hd3.sl
   have HOL:=hid hO
   have HOX:=hid hOx
   have HOW:=hid how
   clear hd3 ht3 hO hOx how HA2
   have c5:=HDA.out.cells.2.2.2.2
   have HOA:Hid ((w3.alloc (.cells #[] 35)).ownsRow w3.heap.size 35 5 (.slice (some ⟨w3.heap.size,0,none⟩) 0 0) 0 []):=by
    refine ⟨rfl,.inr ⟨w3.heap.size,0,#[],rfl,Nat.le_refl _,heap_alloc_new w3 (.cells #[] 35),Nat.le_refl _,by unfold maxLen;omega,rfl,rfl⟩⟩
   rcases hcase with ⟨rfl,h0⟩ | ⟨g,cap,rfl,hnc,hgw,hrow⟩
   ·subst h0
    have hn0:n=0:=by omega
    subst hn0
    clear hsl3
    have HLL:Hid ((O.drop 0).length=0):=by show _=_;rw [List.length_drop,HOL.out]
    have HON:=hid (List.eq_nil_of_length_eq_zero HOL.out)
    go_upto_region 6 with fail
    obtain ⟨w4,hw4⟩:∃ W,w3.alloc (.cells #[] 35)=W:=⟨_,rfl⟩
    have HB4:Hid (Below w3.heap.size w3 w4):=by show Below _ _ _;rw [← hw4];exact HAL.out
    obtain ⟨gb,hgb⟩:∃ g,w3.heap.size=g:=⟨_,rfl⟩
    have HO4:Hid (w4.ownsRow w3.heap.size 35 5 (.slice (some ⟨gb,0,none⟩) 0 0) 0 (ndRow (O.drop 0))):=by show World.ownsRow _ _ _ _ _ _ _;rw [← hw4,HON.out,← hgb];exact HOA.out
    rw [hw4,hgb]
    clear hw4 hgb c5 HAL HDA HOA
    have HD4:=hid (HD3.out.next HB4.out)
    have HT4:=hid (HT3.out.next HB4.out)
    have d5:=HD4.out.cells.2.2.2.2
    have f5:=HD4.out.fz 5
    have HD5:=hid (HD4.out.setout (ov':=.slice none 0 0) (O:=O.take 0) (World.grownBy.refl _ _) (⟨by simp [ndRow],.inl ⟨rfl,rfl⟩⟩) (by simp) (fun x hx=>HOX.out x (List.mem_of_mem_take hx)))
    have HT5:Hid (Dt s ov0 w0 (.slice none 0 0) (w4.setCell ⟨s.D,5,none⟩ (.slice none 0 0))):=HT4.out.trans (Dt.setout (World.grownBy.refl _ _) (fun k hk=>.inl hk))
    have HR5:Hid ((w4.setCell ⟨s.D,5,none⟩ (.slice none 0 0)).ownsRow w3.heap.size 35 5 (.slice (some ⟨gb,0,none⟩) 0 0) 0 (ndRow (O.drop 0))):=own_keepD HO4.out fun k cur e _=>Below.heap_setCell _ _ _ _ (fun e2=>by have:=(own_loD HO4.out k e).1;have:k=s.D:=e2;omega)
    go_upto_region 7 with fail
    obtain ⟨W5,hW5⟩:∃ W,w4.setCell ⟨s.D,5,none⟩ (.slice none 0 0)=W:=⟨_,rfl⟩
    rw [hW5] at HD5 HT5 HR5 ⊢
    clear hW5 d5 f5 HD4 HT4 HO4 HB4
    have HA5:Hid (Ad s (.slice none 0 0) W5 (p2+1) false 0 W5):=⟨_,HD5.out,Dt.refl _ _ _⟩
    clear HD5
    go_wp2_with fail
    refine (name_at9 HA5.out).mono ?_
    rintro e w6 ⟨t6,p6,b6,rfl,x6,l6a,l6b,_,a6⟩
    have HA6:=hid a6
    have HX6:=hid x6
    clear a6 HA5 x6
    go_wp2_with fail
    refine (need_at HA6.out _).mono ?_
    rintro e w7 ⟨rfl,p7,b7,l7a,l7b,a7⟩
    have HA7:=hid a7
    clear a7 HA6
    go_wp2_with fail
    refine (hE p7 (by omega) _ _ _ _ _ HA7.out (by have:=HA7.out.pT;omega)).mono ?_
    rintro e w8 ⟨rfl,p8,b8,n8,l8a,l8b,l8c,a8⟩
    have HR8:=hid (a8.row HR5.out hDw (fun k hk=>by simp [Value.ownBlock] at hk))
    obtain ⟨ov8,hd8,ht8⟩:=a8
    have HD8:=hid hd8
    have HT8:=hid ht8
    have z8:=hd8.pT
    have hB8:=hd8.Bz
    obtain ⟨O8,hO8,hx8,how8,_⟩:=hd8.sl
    have HOL8:=hid hO8
    have HOX8:=hid hx8
    have HOW8:=hid how8
    obtain ⟨va8,vc8,rfl⟩:=own_sl how8
    clear hd8 ht8 hO8 hx8 how8 HA7 HR5
    have d8:=HD8.out.cells.2.2.2.2
    have HC8:=hid (HR8.out.cells (g:=gb) rfl)
    have HKS:Hid (∀ V:World,w8.grownBy V (Value.ownBlock (.slice va8 n8 vc8))→V.cell? ⟨s.D,5,none⟩=some (.slice va8 n8 vc8)∧V.frozen? ⟨s.D,5,none⟩=false):=fun V hg=>by
     have hk:=hg.block s.D HD8.out.lt (fun e=>HD8.out.ne e.symm)
     obtain ⟨q,hq⟩:=HD8.out.box
     exact ⟨cell_hp (hk.trans hq) 5,frozen_hp (hk.trans hq) 5⟩
    have HFIN:Hid (∀ (v':Value) (V:World),w8.grownBy V (Value.ownBlock (.slice va8 n8 vc8))→V.ownsRow s.B 35 5 v' (n8+0) (ndRow O8 ++ ndRow (O.drop 0))→(v'.ownBlock=Value.ownBlock (.slice va8 n8 vc8)∨v'.ownBlock=some w8.heap.size)→Ad s ov0 w0 p8 b8 (n8+0) (V.setCell ⟨s.D,5,none⟩ v')):=fun v' V hg ho hr=>by
     refine ⟨v',HD8.out.setout (O:=O8 ++ (O.drop 0)) hg (by rw [ndRow_append];exact ho) (by rw [List.length_append,HOL8.out,HLL.out]) ?_,(HT5.out.trans HT8.out).trans (Dt.setout hg fun k hk=>?_)⟩
     ·intro y hy
      rcases List.mem_append.1 hy with hy | hy
      ·exact HOX8.out y hy
      ·exact HOX.out y (List.mem_of_mem_drop hy)
     ·rcases hr with hr | hr
      ·exact .inl (by rw [← hr];exact hk)
      ·rw [hr] at hk
       injection hk with hk
       exact .inr (by omega)
    go_wp2_with (at_builtin;refine wpList_append_own_at _ rfl (.tmp 48) (.tmp 49) 23 rfl s.B 35 i0 (.agg #[.int .i64 0,.int .i64 0,.int .i64 0,.string ⟨#[]⟩,.int .i64 0]) 5 48 Tryz.underlying23 HHI.out.1 HHI.out.2.1 HHI.out.2.2.1 HHI.out.2.2.2 rfl (by decide) (.slice va8 n8 vc8) n8 (ndRow O8) rfl HOW8.out ⟨gb,0,none⟩ (0) 0 (ndRow (O.drop 0)) rfl (by rw [ndRow_length,HLL.out]) HC8.out (ndRow_one _) (by unfold maxLen;omega) (by omega) hB8 ?_;intro v9 w9 o9 g9 n9 q9;obtain ⟨m1,m2⟩:=HKS.out _ g9;have HA9:=hid (HFIN.out _ _ g9 o9 q9);have hv9:=own_sl o9;obtain ⟨a9,c9,rfl⟩:=hv9;clear o9 g9 n9 q9)
    refine (take_at HA9.out _).mono ?_
    rintro e w11 (⟨rfl,l11,a11⟩ | ⟨rfl,a11⟩)
    ·have HA11:=hid a11
     clear a11 HA9
     go_wp2_with fail
     refine (hE (p8+1) (by omega) _ _ _ _ _ HA11.out (by have:=HA11.out.pT;omega)).mono ?_
     rintro e w12 ⟨rfl,p12,b12,n12,l12a,l12b,l12c,a12⟩
     have HA12:=hid a12
     clear a12 HA11
     go_wp2_with fail
     refine (need_at HA12.out _).mono ?_
     rintro e w13 ⟨rfl,p13,b13,l13a,l13b,a13⟩
     have HA13:=hid a13
     clear a13 HA12
     go_wp2_with fail
     refine (put_at9 HA13.out ⟨16,0,0,t6,3⟩ HX6.out (by have:=HA13.out.pT;omega)).mono ?_
     rintro e w14 ⟨rfl,a14⟩
     have HA14:=hid a14
     clear a14 HA13
     go_wp2
     exact bodyPost_ret (results_none rfl _ _ _) rfl ⟨rfl,p13,b13,(n12+1),by omega,by omega,by omega,HA14.out⟩
    ·have HA11:=hid a11
     clear a11 HA9
     go_wp2_with fail
     refine (need_at HA11.out _).mono ?_
     rintro e w13 ⟨rfl,p13,b13,l13a,l13b,a13⟩
     have HA13:=hid a13
     clear a13 HA11
     go_wp2_with fail
     refine (put_at9 HA13.out ⟨16,0,0,t6,2⟩ HX6.out (by have:=HA13.out.pT;omega)).mono ?_
     rintro e w14 ⟨rfl,a14⟩
     have HA14:=hid a14
     clear a14 HA13
     go_wp2
     exact bodyPost_ret (results_none rfl _ _ _) rfl ⟨rfl,p13,b13,(n8+0+1),by omega,by omega,by omega,HA14.out⟩
   ·have hcn:n≤cap:=by omega
    have i1:(n:Int)≤(n2:Int):=by omega
    have i2:(n:Int)≤(cap:Int):=by omega
    have HW3:Hid (w3.ownsRow s.B 35 5 (.slice (some ⟨g,0,none⟩) n2 cap) n2 (ndRow O)):=by
     have hg3:g < w3.heap.size:=by
      obtain ⟨O',_,_,_,hc⟩:=hsl3
      rcases hc with ⟨e,_⟩ | ⟨g',c',e,_,hh,_⟩
      ·cases e
      ·cases e;exact hh
     exact own_keepD HOW.out fun k cur e _=>by
      simp only [Value.ownBlock,Option.some.injEq] at e
      subst e
      exact (HAL.out.block g hg3).symm
    have hg3:g < w3.heap.size:=by
     obtain ⟨O',_,_,_,hc⟩:=hsl3
     rcases hc with ⟨e,_⟩ | ⟨g',c',e,_,hh,_⟩
     ·cases e
     ·cases e;exact hh
    have HOW3:=HW3
    clear hsl3 hgw
    by_cases hnk:n < cap
    ·have HDC:=hid (hrow.part n (by rw [HOL.out];omega)).2
     have HLL:Hid ((O.drop n).length=n2 - n):=by show _=_;rw [List.length_drop,HOL.out]
     go_upto_region 6 with (at_builtin;refine wpList_append_own_at _ rfl (.tmp 21) (.tmp 27) 23 rfl w3.heap.size 35 i0 (.agg #[.int .i64 0,.int .i64 0,.int .i64 0,.string ⟨#[]⟩,.int .i64 0]) 5 48 Tryz.underlying23 HHI.out.1 HHI.out.2.1 HHI.out.2.2.1 HHI.out.2.2.2 rfl (by decide) (.slice (some ⟨w3.heap.size,0,none⟩) 0 0) 0 [] rfl HOA.out ⟨g,n * 5,none⟩ (n2 - n) (cap - n) (ndRow (O.drop n)) (by first | rfl | (simp [Act.eval];done) | (simp [Act.eval];omega)) (by rw [ndRow_length,HLL.out]) (HDC.out) (by first | exact ndRow_one _ | simp) (by unfold maxLen;omega) (by omega) (by simp) ?_;intro v4 w4 o4 g4 n4 q4;have HO4a:=hid o4;have HB4:=hid (HAL.out.grown g4 HAL.out.size (fun k e=>by simp [Value.ownBlock] at e;omega));have hv4:=own_some o4 (fun e=>by have:=n4.1 e;simp at this);obtain ⟨gb,cb,rfl⟩:=hv4;clear o4 g4 n4 q4)
     have HO4:Hid (w4.ownsRow w3.heap.size 35 5 (.slice (some ⟨gb,0,none⟩) (n2 - n) cb) (n2 - n) (ndRow (O.drop n))):=by show World.ownsRow _ _ _ _ _ _ _;simpa using HO4a.out
     clear HO4a c5 HAL HDA HOA HOW hrow
     have HD4:=hid (HD3.out.next HB4.out)
     have HT4:=hid (HT3.out.next HB4.out)
     have d5:=HD4.out.cells.2.2.2.2
     have f5:=HD4.out.fz 5
     have HD5:=hid (HD4.out.setout (ov':=.slice (some ⟨g,0,none⟩) n cap) (O:=O.take n) (World.grownBy.refl _ _) (own_take (own_below HOW3.out HB4.out) HOL.out (by omega)) (by rw [List.length_take,HOL.out];omega) (fun x hx=>HOX.out x (List.mem_of_mem_take hx)))
     have HT5:Hid (Dt s ov0 w0 (.slice (some ⟨g,0,none⟩) n cap) (w4.setCell ⟨s.D,5,none⟩ (.slice (some ⟨g,0,none⟩) n cap))):=HT4.out.trans (Dt.setout (World.grownBy.refl _ _) (fun k hk=>.inl hk))
     have HR5:Hid ((w4.setCell ⟨s.D,5,none⟩ (.slice (some ⟨g,0,none⟩) n cap)).ownsRow w3.heap.size 35 5 (.slice (some ⟨gb,0,none⟩) (n2 - n) cb) (n2 - n) (ndRow (O.drop n))):=own_keepD HO4.out fun k cur e _=>Below.heap_setCell _ _ _ _ (fun e2=>by have:=(own_loD HO4.out k e).1;have:k=s.D:=e2;omega)
     go_upto_region 7 with fail
     obtain ⟨W5,hW5⟩:∃ W,w4.setCell ⟨s.D,5,none⟩ (.slice (some ⟨g,0,none⟩) n cap)=W:=⟨_,rfl⟩
     rw [hW5] at HD5 HT5 HR5 ⊢
     clear hW5 d5 f5 HD4 HT4 HO4 HB4
     have HA5:Hid (Ad s (.slice (some ⟨g,0,none⟩) n cap) W5 (p2+1) false n W5):=⟨_,HD5.out,Dt.refl _ _ _⟩
     clear HD5
     go_wp2_with fail
     refine (name_at9 HA5.out).mono ?_
     rintro e w6 ⟨t6,p6,b6,rfl,x6,l6a,l6b,_,a6⟩
     have HA6:=hid a6
     have HX6:=hid x6
     clear a6 HA5 x6
     go_wp2_with fail
     refine (need_at HA6.out _).mono ?_
     rintro e w7 ⟨rfl,p7,b7,l7a,l7b,a7⟩
     have HA7:=hid a7
     clear a7 HA6
     go_wp2_with fail
     refine (hE p7 (by omega) _ _ _ _ _ HA7.out (by have:=HA7.out.pT;omega)).mono ?_
     rintro e w8 ⟨rfl,p8,b8,n8,l8a,l8b,l8c,a8⟩
     have HR8:=hid (a8.row HR5.out hDw (fun k hk=>by simp [Value.ownBlock] at hk;omega))
     obtain ⟨ov8,hd8,ht8⟩:=a8
     have HD8:=hid hd8
     have HT8:=hid ht8
     have z8:=hd8.pT
     have hB8:=hd8.Bz
     obtain ⟨O8,hO8,hx8,how8,_⟩:=hd8.sl
     have HOL8:=hid hO8
     have HOX8:=hid hx8
     have HOW8:=hid how8
     obtain ⟨va8,vc8,rfl⟩:=own_sl how8
     clear hd8 ht8 hO8 hx8 how8 HA7 HR5
     have d8:=HD8.out.cells.2.2.2.2
     have HC8:=hid (HR8.out.cells (g:=gb) rfl)
     have HKS:Hid (∀ V:World,w8.grownBy V (Value.ownBlock (.slice va8 n8 vc8))→V.cell? ⟨s.D,5,none⟩=some (.slice va8 n8 vc8)∧V.frozen? ⟨s.D,5,none⟩=false):=fun V hg=>by
      have hk:=hg.block s.D HD8.out.lt (fun e=>HD8.out.ne e.symm)
      obtain ⟨q,hq⟩:=HD8.out.box
      exact ⟨cell_hp (hk.trans hq) 5,frozen_hp (hk.trans hq) 5⟩
     have HFIN:Hid (∀ (v':Value) (V:World),w8.grownBy V (Value.ownBlock (.slice va8 n8 vc8))→V.ownsRow s.B 35 5 v' (n8+(n2 - n)) (ndRow O8 ++ ndRow (O.drop n))→(v'.ownBlock=Value.ownBlock (.slice va8 n8 vc8)∨v'.ownBlock=some w8.heap.size)→Ad s ov0 w0 p8 b8 (n8+(n2 - n)) (V.setCell ⟨s.D,5,none⟩ v')):=fun v' V hg ho hr=>by
      refine ⟨v',HD8.out.setout (O:=O8 ++ (O.drop n)) hg (by rw [ndRow_append];exact ho) (by rw [List.length_append,HOL8.out,HLL.out]) ?_,(HT5.out.trans HT8.out).trans (Dt.setout hg fun k hk=>?_)⟩
      ·intro y hy
       rcases List.mem_append.1 hy with hy | hy
       ·exact HOX8.out y hy
       ·exact HOX.out y (List.mem_of_mem_drop hy)
      ·rcases hr with hr | hr
       ·exact .inl (by rw [← hr];exact hk)
       ·rw [hr] at hk
        injection hk with hk
        exact .inr (by omega)
     go_wp2_with (at_builtin;refine wpList_append_own_at _ rfl (.tmp 48) (.tmp 49) 23 rfl s.B 35 i0 (.agg #[.int .i64 0,.int .i64 0,.int .i64 0,.string ⟨#[]⟩,.int .i64 0]) 5 48 Tryz.underlying23 HHI.out.1 HHI.out.2.1 HHI.out.2.2.1 HHI.out.2.2.2 rfl (by decide) (.slice va8 n8 vc8) n8 (ndRow O8) rfl HOW8.out ⟨gb,0,none⟩ ((n2 - n)) cb (ndRow (O.drop n)) rfl (by rw [ndRow_length,HLL.out]) HC8.out (ndRow_one _) (by unfold maxLen;omega) (by omega) hB8 ?_;intro v9 w9 o9 g9 n9 q9;obtain ⟨m1,m2⟩:=HKS.out _ g9;have HA9:=hid (HFIN.out _ _ g9 o9 q9);have hv9:=own_sl o9;obtain ⟨a9,c9,rfl⟩:=hv9;clear o9 g9 n9 q9)
     refine (take_at HA9.out _).mono ?_
     rintro e w11 (⟨rfl,l11,a11⟩ | ⟨rfl,a11⟩)
     ·have HA11:=hid a11
      clear a11 HA9
      go_wp2_with fail
      refine (hE (p8+1) (by omega) _ _ _ _ _ HA11.out (by have:=HA11.out.pT;omega)).mono ?_
      rintro e w12 ⟨rfl,p12,b12,n12,l12a,l12b,l12c,a12⟩
      have HA12:=hid a12
      clear a12 HA11
      go_wp2_with fail
      refine (need_at HA12.out _).mono ?_
      rintro e w13 ⟨rfl,p13,b13,l13a,l13b,a13⟩
      have HA13:=hid a13
      clear a13 HA12
      go_wp2_with fail
      refine (put_at9 HA13.out ⟨16,0,0,t6,3⟩ HX6.out (by have:=HA13.out.pT;omega)).mono ?_
      rintro e w14 ⟨rfl,a14⟩
      have HA14:=hid a14
      clear a14 HA13
      go_wp2
      exact bodyPost_ret (results_none rfl _ _ _) rfl ⟨rfl,p13,b13,(n12+1),by omega,by omega,by omega,HA14.out⟩
     ·have HA11:=hid a11
      clear a11 HA9
      go_wp2_with fail
      refine (need_at HA11.out _).mono ?_
      rintro e w13 ⟨rfl,p13,b13,l13a,l13b,a13⟩
      have HA13:=hid a13
      clear a13 HA11
      go_wp2_with fail
      refine (put_at9 HA13.out ⟨16,0,0,t6,2⟩ HX6.out (by have:=HA13.out.pT;omega)).mono ?_
      rintro e w14 ⟨rfl,a14⟩
      have HA14:=hid a14
      clear a14 HA13
      go_wp2
      exact bodyPost_ret (results_none rfl _ _ _) rfl ⟨rfl,p13,b13,(n8+(n2 - n)+1),by omega,by omega,by omega,HA14.out⟩
    ·have hdn:O.drop n=[]:=List.drop_eq_nil_of_le (by rw [HOL.out];omega)
     have HDN:=hid hdn
     clear hdn
     have HLL:Hid ((O.drop n).length=n2 - n):=by show _=_;rw [List.length_drop,HOL.out]
     go_upto_region 6 with (at_builtin;refine wpList_append_own_at _ rfl (.tmp 21) (.tmp 27) 23 rfl w3.heap.size 35 i0 (.agg #[.int .i64 0,.int .i64 0,.int .i64 0,.string ⟨#[]⟩,.int .i64 0]) 5 48 Tryz.underlying23 HHI.out.1 HHI.out.2.1 HHI.out.2.2.1 HHI.out.2.2.2 rfl (by decide) (.slice (some ⟨w3.heap.size,0,none⟩) 0 0) 0 [] rfl HOA.out ⟨g,0,none⟩ (n2 - n) (cap - n) [] (by first | rfl | (simp [Act.eval];done) | (simp [Act.eval];omega)) (by simp;omega) (fun j u hu=>by simp at hu) (by first | exact ndRow_one _ | simp) (by unfold maxLen;omega) (by omega) (by simp) ?_;intro v4 w4 o4 g4 n4 q4;have HO4a:=hid o4;have HB4:=hid (HAL.out.grown g4 HAL.out.size (fun k e=>by simp [Value.ownBlock] at e;omega));have hv4:=own_some o4 (fun e=>by have:=n4.1 e;simp at this);obtain ⟨gb,cb,rfl⟩:=hv4;clear o4 g4 n4 q4)
     have HO4:Hid (w4.ownsRow w3.heap.size 35 5 (.slice (some ⟨gb,0,none⟩) (n2 - n) cb) (n2 - n) (ndRow (O.drop n))):=by show World.ownsRow _ _ _ _ _ _ _;rw [HDN.out];simpa [ndRow] using HO4a.out
     clear HO4a c5 HAL HDA HOA HOW hrow
     have HD4:=hid (HD3.out.next HB4.out)
     have HT4:=hid (HT3.out.next HB4.out)
     have d5:=HD4.out.cells.2.2.2.2
     have f5:=HD4.out.fz 5
     have HD5:=hid (HD4.out.setout (ov':=.slice (some ⟨g,0,none⟩) n cap) (O:=O.take n) (World.grownBy.refl _ _) (own_take (own_below HOW3.out HB4.out) HOL.out (by omega)) (by rw [List.length_take,HOL.out];omega) (fun x hx=>HOX.out x (List.mem_of_mem_take hx)))
     have HT5:Hid (Dt s ov0 w0 (.slice (some ⟨g,0,none⟩) n cap) (w4.setCell ⟨s.D,5,none⟩ (.slice (some ⟨g,0,none⟩) n cap))):=HT4.out.trans (Dt.setout (World.grownBy.refl _ _) (fun k hk=>.inl hk))
     have HR5:Hid ((w4.setCell ⟨s.D,5,none⟩ (.slice (some ⟨g,0,none⟩) n cap)).ownsRow w3.heap.size 35 5 (.slice (some ⟨gb,0,none⟩) (n2 - n) cb) (n2 - n) (ndRow (O.drop n))):=own_keepD HO4.out fun k cur e _=>Below.heap_setCell _ _ _ _ (fun e2=>by have:=(own_loD HO4.out k e).1;have:k=s.D:=e2;omega)
     go_upto_region 7 with fail
     obtain ⟨W5,hW5⟩:∃ W,w4.setCell ⟨s.D,5,none⟩ (.slice (some ⟨g,0,none⟩) n cap)=W:=⟨_,rfl⟩
     rw [hW5] at HD5 HT5 HR5 ⊢
     clear hW5 d5 f5 HD4 HT4 HO4 HB4
     have HA5:Hid (Ad s (.slice (some ⟨g,0,none⟩) n cap) W5 (p2+1) false n W5):=⟨_,HD5.out,Dt.refl _ _ _⟩
     clear HD5
     go_wp2_with fail
     refine (name_at9 HA5.out).mono ?_
     rintro e w6 ⟨t6,p6,b6,rfl,x6,l6a,l6b,_,a6⟩
     have HA6:=hid a6
     have HX6:=hid x6
     clear a6 HA5 x6
     go_wp2_with fail
     refine (need_at HA6.out _).mono ?_
     rintro e w7 ⟨rfl,p7,b7,l7a,l7b,a7⟩
     have HA7:=hid a7
     clear a7 HA6
     go_wp2_with fail
     refine (hE p7 (by omega) _ _ _ _ _ HA7.out (by have:=HA7.out.pT;omega)).mono ?_
     rintro e w8 ⟨rfl,p8,b8,n8,l8a,l8b,l8c,a8⟩
     have HR8:=hid (a8.row HR5.out hDw (fun k hk=>by simp [Value.ownBlock] at hk;omega))
     obtain ⟨ov8,hd8,ht8⟩:=a8
     have HD8:=hid hd8
     have HT8:=hid ht8
     have z8:=hd8.pT
     have hB8:=hd8.Bz
     obtain ⟨O8,hO8,hx8,how8,_⟩:=hd8.sl
     have HOL8:=hid hO8
     have HOX8:=hid hx8
     have HOW8:=hid how8
     obtain ⟨va8,vc8,rfl⟩:=own_sl how8
     clear hd8 ht8 hO8 hx8 how8 HA7 HR5
     have d8:=HD8.out.cells.2.2.2.2
     have HC8:=hid (HR8.out.cells (g:=gb) rfl)
     have HKS:Hid (∀ V:World,w8.grownBy V (Value.ownBlock (.slice va8 n8 vc8))→V.cell? ⟨s.D,5,none⟩=some (.slice va8 n8 vc8)∧V.frozen? ⟨s.D,5,none⟩=false):=fun V hg=>by
      have hk:=hg.block s.D HD8.out.lt (fun e=>HD8.out.ne e.symm)
      obtain ⟨q,hq⟩:=HD8.out.box
      exact ⟨cell_hp (hk.trans hq) 5,frozen_hp (hk.trans hq) 5⟩
     have HFIN:Hid (∀ (v':Value) (V:World),w8.grownBy V (Value.ownBlock (.slice va8 n8 vc8))→V.ownsRow s.B 35 5 v' (n8+(n2 - n)) (ndRow O8 ++ ndRow (O.drop n))→(v'.ownBlock=Value.ownBlock (.slice va8 n8 vc8)∨v'.ownBlock=some w8.heap.size)→Ad s ov0 w0 p8 b8 (n8+(n2 - n)) (V.setCell ⟨s.D,5,none⟩ v')):=fun v' V hg ho hr=>by
      refine ⟨v',HD8.out.setout (O:=O8 ++ (O.drop n)) hg (by rw [ndRow_append];exact ho) (by rw [List.length_append,HOL8.out,HLL.out]) ?_,(HT5.out.trans HT8.out).trans (Dt.setout hg fun k hk=>?_)⟩
      ·intro y hy
       rcases List.mem_append.1 hy with hy | hy
       ·exact HOX8.out y hy
       ·exact HOX.out y (List.mem_of_mem_drop hy)
      ·rcases hr with hr | hr
       ·exact .inl (by rw [← hr];exact hk)
       ·rw [hr] at hk
        injection hk with hk
        exact .inr (by omega)
     go_wp2_with (at_builtin;refine wpList_append_own_at _ rfl (.tmp 48) (.tmp 49) 23 rfl s.B 35 i0 (.agg #[.int .i64 0,.int .i64 0,.int .i64 0,.string ⟨#[]⟩,.int .i64 0]) 5 48 Tryz.underlying23 HHI.out.1 HHI.out.2.1 HHI.out.2.2.1 HHI.out.2.2.2 rfl (by decide) (.slice va8 n8 vc8) n8 (ndRow O8) rfl HOW8.out ⟨gb,0,none⟩ ((n2 - n)) cb (ndRow (O.drop n)) rfl (by rw [ndRow_length,HLL.out]) HC8.out (ndRow_one _) (by unfold maxLen;omega) (by omega) hB8 ?_;intro v9 w9 o9 g9 n9 q9;obtain ⟨m1,m2⟩:=HKS.out _ g9;have HA9:=hid (HFIN.out _ _ g9 o9 q9);have hv9:=own_sl o9;obtain ⟨a9,c9,rfl⟩:=hv9;clear o9 g9 n9 q9)
     refine (take_at HA9.out _).mono ?_
     rintro e w11 (⟨rfl,l11,a11⟩ | ⟨rfl,a11⟩)
     ·have HA11:=hid a11
      clear a11 HA9
      go_wp2_with fail
      refine (hE (p8+1) (by omega) _ _ _ _ _ HA11.out (by have:=HA11.out.pT;omega)).mono ?_
      rintro e w12 ⟨rfl,p12,b12,n12,l12a,l12b,l12c,a12⟩
      have HA12:=hid a12
      clear a12 HA11
      go_wp2_with fail
      refine (need_at HA12.out _).mono ?_
      rintro e w13 ⟨rfl,p13,b13,l13a,l13b,a13⟩
      have HA13:=hid a13
      clear a13 HA12
      go_wp2_with fail
      refine (put_at9 HA13.out ⟨16,0,0,t6,3⟩ HX6.out (by have:=HA13.out.pT;omega)).mono ?_
      rintro e w14 ⟨rfl,a14⟩
      have HA14:=hid a14
      clear a14 HA13
      go_wp2
      exact bodyPost_ret (results_none rfl _ _ _) rfl ⟨rfl,p13,b13,(n12+1),by omega,by omega,by omega,HA14.out⟩
     ·have HA11:=hid a11
      clear a11 HA9
      go_wp2_with fail
      refine (need_at HA11.out _).mono ?_
      rintro e w13 ⟨rfl,p13,b13,l13a,l13b,a13⟩
      have HA13:=hid a13
      clear a13 HA11
      go_wp2_with fail
      refine (put_at9 HA13.out ⟨16,0,0,t6,2⟩ HX6.out (by have:=HA13.out.pT;omega)).mono ?_
      rintro e w14 ⟨rfl,a14⟩
      have HA14:=hid a14
      clear a14 HA13
      go_wp2
      exact bodyPost_ret (results_none rfl _ _ _) rfl ⟨rfl,p13,b13,(n8+(n2 - n)+1),by omega,by omega,by omega,HA14.out⟩
  ·have HA3:=hid a3
   clear a3 HA2
   go_wp2
   go_loopw [6] (fun c6 wr=>∃ m q k:Nat,∃ bb:Bool,c6=.int .i64 m∧m≤q+1∧p≤q∧n≤k∧k+2 * p≤n+2 * q∧Ad s ov0 w0 q bb k wr) (fun _ wr=>s.T - deskP s wr)
   case atStart=>exact ⟨1,p2,n2,_,rfl,by omega,by omega,by omega,by omega,HA3.out⟩
   case round =>
    obtain ⟨m,q,k,bb,rfl,lm,lq,lk,lkq,ad⟩:=hrel
    have HAr:=hid ad
    have HDP:=hid ad.deskP
    have hqT:=ad.pT.1
    clear ad HA3
    go_wp2_with fail
    refine (take_at HAr.out _).mono ?_
    rintro e w4 (⟨rfl,l4,a4⟩ | ⟨rfl,a4⟩)
    ·have HA4:=hid a4
     clear a4 HAr
     go_wp2_with fail
     refine (hE (q+1) (by omega) _ _ _ _ _ HA4.out (by have:=HA4.out.pT;omega)).mono ?_
     rintro e w5 ⟨rfl,p5,b5,n5,l5a,l5b,l5c,a5⟩
     have HA5:=hid a5
     clear a5 HA4
     go_wp2
     go_roundw
     case rel=>exact ⟨m+1,p5,n5,b5,by go_num,by omega,by omega,by omega,by omega,HA5.out⟩
     case measure=>rw [HA5.out.deskP,HDP.out];have:=HA5.out.pT;omega
    ·have HA4:=hid a4
     clear a4 HAr
     go_wp2_with fail
     refine (need_at HA4.out _).mono ?_
     rintro e w5 ⟨rfl,p5,b5,l5a,l5b,a5⟩
     have HA5:=hid a5
     clear a5 HA4
     go_wp2_with fail
     refine (put_at9 HA5.out ⟨8,0,0,⟨#[]⟩,(m:Int)⟩ (by show (⟨#[]⟩:ByteArray).size≤1000;decide) (by have:=HA5.out.pT;omega)).mono ?_
     rintro e w6 ⟨rfl,a6⟩
     have HA6:=hid a6
     clear a6 HA5
     go_wp2
     go_end0
     exact ⟨rfl,p5,b5,(k+1),by omega,by omega,by omega,HA6.out⟩
end Go.Proofs.YthnohneaanphbaaGreatDoor
