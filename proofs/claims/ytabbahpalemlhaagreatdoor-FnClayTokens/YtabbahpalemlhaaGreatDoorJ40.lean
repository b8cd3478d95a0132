import Derived.Deep.DeepCutAuto
import Derived.Test.YtabbahpalemlhaaGreatDoorJ39
import Derived.Test.YtabbahpalemlhaaGreatDoorJ30
import Derived.Test.YtabbahpalemlhaaGreatDoorJ38
namespace Go.Proofs.YtabbahpalemlhaaGreatDoor
open Go.RowKit
set_option maxRecDepth 20000
set_option maxHeartbeats 16000000 in
theorem args_at {s:Ds} {ov0:Value} {w0:World} {p n:Nat} {bad:Bool} {w:World} (hE:∀ q,p≤q→EOk9 s q) (h:Ad s ov0 w0 p bad n w) (hl:n+2 * s.T≤400000+2 * p) :
  Calls Tryz.prog 117 #[.pointer (some ⟨s.D,0,none⟩)] w (DI9 s ov0 w0 p n):=by
 have HA0:=hid h
 have hT:=h.pT.2
 clear h
 go_enter Tryz.func117,Tryz.ntmps117
 go_wp2
 go_loopw [3,4] (fun c3 c4 wr=>∃ m q k:Nat,∃ bb:Bool,c3=.int .i64 m∧(∃ nb:Bool,c4=.bool nb)∧p≤q∧n≤k∧k+2 * p≤n+2 * q∧m≤q - p∧Ad s ov0 w0 q bb k wr) (fun _ _ wr=>s.T - deskP s wr)
 case atStart=>exact ⟨0,p,n,_,rfl,⟨_,rfl⟩,by omega,by omega,by omega,by omega,HA0.out⟩
 case round =>
  obtain ⟨m,q,k,bb,rfl,⟨nb,rfl⟩,lq,lk,lkq,lm,ad⟩:=hrel
  have HAr:=hid ad
  have HDP:=hid ad.deskP
  have hqT:=ad.pT.1
  clear ad HA0
  obtain ⟨_,_,c3,_⟩:=HAr.out.cells
  cases bb
  ·rcases Nat.eq_zero_or_pos m with rfl | hm1
   ·go_wp2_with fail
    refine (is_at HAr.out _).mono ?_
    rintro e w1 (⟨rfl,l1,a1⟩ | ⟨rfl,a1⟩)
    ·have HA1:=hid a1
     clear a1 HAr
     go_wp2_with fail
     refine (need_at HA1.out _).mono ?_
     rintro e w2 ⟨rfl,p2,b2,l2a,l2b,a2⟩
     have HA2:=hid a2
     clear a2 HA1
     go_wp2
     go_ret
     exact ⟨0,p2,b2,k,rfl,by omega,by omega,by omega,by omega,HA2.out⟩
    ·have HA1:=hid a1
     clear a1 HAr
     cases nb
     ·go_wp2_with fail
      refine (named_at HA1.out).mono ?_
      rintro e w3 ⟨v3,rfl,a3⟩
      have HA3:=hid a3
      clear a3 HA1
      cases v3
      ·skip
       go_wp2_with fail
       refine (hE q (by omega) _ _ _ _ _ HA3.out (by have:=HA3.out.pT;omega)).mono ?_
       rintro e w4 ⟨rfl,p4,b4,n4,l4a,l4b,l4c,a4⟩
       have HA4:=hid a4
       clear a4 HA3
       go_wp2_with fail
       refine (take_at HA4.out _).mono ?_
       rintro e w5 (⟨rfl,l5,a5⟩ | ⟨rfl,a5⟩)
       ·have HA5:=hid a5
        clear a5 HA4
        go_wp2
        go_roundw
        case rel=>exact ⟨0+1,(p4+1),n4,false,by go_num,⟨_,rfl⟩,by omega,by omega,by omega,by omega,HA5.out⟩
        case measure=>rw [HA5.out.deskP,HDP.out];have:=HA5.out.pT;omega
       ·have HA5:=hid a5
        clear a5 HA4
        go_wp2_with fail
        refine (need_at HA5.out _).mono ?_
        rintro e w6 ⟨rfl,p6,b6,l6a,l6b,a6⟩
        have HA6:=hid a6
        clear a6 HA5
        go_wp2
        go_ret
        exact ⟨(0+1),p6,b6,n4,rfl,by omega,by omega,by omega,by omega,HA6.out⟩
      ·skip
       go_wp2_with fail
       refine (name_at9 HA3.out).mono ?_
       rintro e w7 ⟨t7,p7,b7,rfl,x7,l7a,l7b,l7c,a7⟩
       have HA7:=hid a7
       have HX7:=hid x7
       have HC7:=hid l7c
       clear a7 HA3 l7c x7
       go_wp2_with fail
       refine (need_at HA7.out _).mono ?_
       rintro e w8 ⟨rfl,p8,b8,l8a,l8b,a8⟩
       have HA8:=hid a8
       clear a8 HA7
       go_wp2_with fail
       refine (hE p8 (by omega) _ _ _ _ _ HA8.out (by have:=HA8.out.pT;omega)).mono ?_
       rintro e w9 ⟨rfl,p9,b9,n9,l9a,l9b,l9c,a9⟩
       have HA9:=hid a9
       clear a9 HA8
       go_wp2_with fail
       refine (put_at9 HA9.out ⟨18,0,0,t7,1⟩ (HX7.out) (by have:=HA9.out.pT;omega)).mono ?_
       rintro e w10 ⟨rfl,a10⟩
       have HA10:=hid a10
       clear a10 HA9
       go_wp2_with fail
       refine (take_at HA10.out _).mono ?_
       rintro e w11 (⟨rfl,l11,a11⟩ | ⟨rfl,a11⟩)
       ·have HA11:=hid a11
        clear a11 HA10
        go_wp2
        go_roundw
        case rel=>exact ⟨0+1,(p9+1),(n9+1),false,by go_num,⟨_,rfl⟩,by omega,by omega,by omega,by omega,HA11.out⟩
        case measure=>rw [HA11.out.deskP,HDP.out];have:=HA11.out.pT;omega
       ·have HA11:=hid a11
        clear a11 HA10
        go_wp2_with fail
        refine (need_at HA11.out _).mono ?_
        rintro e w12 ⟨rfl,p12,b12,l12a,l12b,a12⟩
        have HA12:=hid a12
        clear a12 HA11
        go_wp2
        go_ret
        exact ⟨(0+1),p12,b12,(n9+1),rfl,by omega,by omega,by omega,by omega,HA12.out⟩
     ·skip
      go_wp2_with fail
      refine (name_at9 HA1.out).mono ?_
      rintro e w13 ⟨t13,p13,b13,rfl,x13,l13a,l13b,l13c,a13⟩
      have HA13:=hid a13
      have HX13:=hid x13
      have HC13:=hid l13c
      clear a13 HA1 l13c x13
      go_wp2_with fail
      refine (need_at HA13.out _).mono ?_
      rintro e w14 ⟨rfl,p14,b14,l14a,l14b,a14⟩
      have HA14:=hid a14
      clear a14 HA13
      go_wp2_with fail
      refine (hE p14 (by omega) _ _ _ _ _ HA14.out (by have:=HA14.out.pT;omega)).mono ?_
      rintro e w15 ⟨rfl,p15,b15,n15,l15a,l15b,l15c,a15⟩
      have HA15:=hid a15
      clear a15 HA14
      go_wp2_with fail
      refine (put_at9 HA15.out ⟨18,0,0,t13,1⟩ (HX13.out) (by have:=HA15.out.pT;omega)).mono ?_
      rintro e w16 ⟨rfl,a16⟩
      have HA16:=hid a16
      clear a16 HA15
      go_wp2_with fail
      refine (take_at HA16.out _).mono ?_
      rintro e w17 (⟨rfl,l17,a17⟩ | ⟨rfl,a17⟩)
      ·have HA17:=hid a17
       clear a17 HA16
       go_wp2
       go_roundw
       case rel=>exact ⟨0+1,(p15+1),(n15+1),false,by go_num,⟨_,rfl⟩,by omega,by omega,by omega,by omega,HA17.out⟩
       case measure=>rw [HA17.out.deskP,HDP.out];have:=HA17.out.pT;omega
      ·have HA17:=hid a17
       clear a17 HA16
       go_wp2_with fail
       refine (need_at HA17.out _).mono ?_
       rintro e w18 ⟨rfl,p18,b18,l18a,l18b,a18⟩
       have HA18:=hid a18
       clear a18 HA17
       go_wp2
       go_ret
       exact ⟨(0+1),p18,b18,(n15+1),rfl,by omega,by omega,by omega,by omega,HA18.out⟩
   ·have hm2:(0:Int) < (m:Int):=by omega
    cases nb
    ·go_wp2_with fail
     refine (named_at HAr.out).mono ?_
     rintro e w19 ⟨v19,rfl,a19⟩
     have HA19:=hid a19
     clear a19 HAr
     cases v19
     ·skip
      go_wp2_with fail
      refine (hE q (by omega) _ _ _ _ _ HA19.out (by have:=HA19.out.pT;omega)).mono ?_
      rintro e w20 ⟨rfl,p20,b20,n20,l20a,l20b,l20c,a20⟩
      have HA20:=hid a20
      clear a20 HA19
      go_wp2_with fail
      refine (take_at HA20.out _).mono ?_
      rintro e w21 (⟨rfl,l21,a21⟩ | ⟨rfl,a21⟩)
      ·have HA21:=hid a21
       clear a21 HA20
       go_wp2
       go_roundw
       case rel=>exact ⟨m+1,(p20+1),n20,false,by go_num,⟨_,rfl⟩,by omega,by omega,by omega,by omega,HA21.out⟩
       case measure=>rw [HA21.out.deskP,HDP.out];have:=HA21.out.pT;omega
      ·have HA21:=hid a21
       clear a21 HA20
       go_wp2_with fail
       refine (need_at HA21.out _).mono ?_
       rintro e w22 ⟨rfl,p22,b22,l22a,l22b,a22⟩
       have HA22:=hid a22
       clear a22 HA21
       go_wp2
       go_ret
       exact ⟨(m+1),p22,b22,n20,rfl,by omega,by omega,by omega,by omega,HA22.out⟩
     ·skip
      go_wp2_with fail
      refine (name_at9 HA19.out).mono ?_
      rintro e w23 ⟨t23,p23,b23,rfl,x23,l23a,l23b,l23c,a23⟩
      have HA23:=hid a23
      have HX23:=hid x23
      have HC23:=hid l23c
      clear a23 HA19 l23c x23
      go_wp2_with fail
      refine (need_at HA23.out _).mono ?_
      rintro e w24 ⟨rfl,p24,b24,l24a,l24b,a24⟩
      have HA24:=hid a24
      clear a24 HA23
      go_wp2_with fail
      refine (hE p24 (by omega) _ _ _ _ _ HA24.out (by have:=HA24.out.pT;omega)).mono ?_
      rintro e w25 ⟨rfl,p25,b25,n25,l25a,l25b,l25c,a25⟩
      have HA25:=hid a25
      clear a25 HA24
      go_wp2_with fail
      refine (put_at9 HA25.out ⟨18,0,0,t23,1⟩ (HX23.out) (by have:=HA25.out.pT;omega)).mono ?_
      rintro e w26 ⟨rfl,a26⟩
      have HA26:=hid a26
      clear a26 HA25
      go_wp2_with fail
      refine (take_at HA26.out _).mono ?_
      rintro e w27 (⟨rfl,l27,a27⟩ | ⟨rfl,a27⟩)
      ·have HA27:=hid a27
       clear a27 HA26
       go_wp2
       go_roundw
       case rel=>exact ⟨m+1,(p25+1),(n25+1),false,by go_num,⟨_,rfl⟩,by omega,by omega,by omega,by omega,HA27.out⟩
       case measure=>rw [HA27.out.deskP,HDP.out];have:=HA27.out.pT;omega
      ·have HA27:=hid a27
       clear a27 HA26
       go_wp2_with fail
       refine (need_at HA27.out _).mono ?_
       rintro e w28 ⟨rfl,p28,b28,l28a,l28b,a28⟩
       have HA28:=hid a28
       clear a28 HA27
       go_wp2
       go_ret
       exact ⟨(m+1),p28,b28,(n25+1),rfl,by omega,by omega,by omega,by omega,HA28.out⟩
    ·skip
     go_wp2_with fail
     refine (name_at9 HAr.out).mono ?_
     rintro e w29 ⟨t29,p29,b29,rfl,x29,l29a,l29b,l29c,a29⟩
     have HA29:=hid a29
     have HX29:=hid x29
     have HC29:=hid l29c
     clear a29 HAr l29c x29
     go_wp2_with fail
     refine (need_at HA29.out _).mono ?_
     rintro e w30 ⟨rfl,p30,b30,l30a,l30b,a30⟩
     have HA30:=hid a30
     clear a30 HA29
     go_wp2_with fail
     refine (hE p30 (by omega) _ _ _ _ _ HA30.out (by have:=HA30.out.pT;omega)).mono ?_
     rintro e w31 ⟨rfl,p31,b31,n31,l31a,l31b,l31c,a31⟩
     have HA31:=hid a31
     clear a31 HA30
     go_wp2_with fail
     refine (put_at9 HA31.out ⟨18,0,0,t29,1⟩ (HX29.out) (by have:=HA31.out.pT;omega)).mono ?_
     rintro e w32 ⟨rfl,a32⟩
     have HA32:=hid a32
     clear a32 HA31
     go_wp2_with fail
     refine (take_at HA32.out _).mono ?_
     rintro e w33 (⟨rfl,l33,a33⟩ | ⟨rfl,a33⟩)
     ·have HA33:=hid a33
      clear a33 HA32
      go_wp2
      go_roundw
      case rel=>exact ⟨m+1,(p31+1),(n31+1),false,by go_num,⟨_,rfl⟩,by omega,by omega,by omega,by omega,HA33.out⟩
      case measure=>rw [HA33.out.deskP,HDP.out];have:=HA33.out.pT;omega
     ·have HA33:=hid a33
      clear a33 HA32
      go_wp2_with fail
      refine (need_at HA33.out _).mono ?_
      rintro e w34 ⟨rfl,p34,b34,l34a,l34b,a34⟩
      have HA34:=hid a34
      clear a34 HA33
      go_wp2
      go_ret
      exact ⟨(m+1),p34,b34,(n31+1),rfl,by omega,by omega,by omega,by omega,HA34.out⟩
  ·skip
   go_wp2_with fail
   refine (need_at HAr.out _).mono ?_
   rintro e w35 ⟨rfl,p35,b35,l35a,l35b,a35⟩
   have HA35:=hid a35
   clear a35 HAr
   go_wp2
   go_ret
   exact ⟨m,p35,b35,k,rfl,by omega,by omega,by omega,by omega,HA35.out⟩
end Go.Proofs.YtabbahpalemlhaaGreatDoor
namespace Go.Proofs.YtabbahpalemlhaaGreatDoor.Tk
open Go.RowKit
set_option maxRecDepth 20000
set_option maxHeartbeats 4000000 in
theorem plain_16 {nd:Nat→Nd} {O:List (List Nat)} {N b cap g co P j:Nat} {op n kids:Int} {t:ByteArray} {ks:List Nat} (h:Ctx nd O N b cap g co P j ⟨16,op,n,t,kids⟩ ks):InkOk nd O N b cap g co P j:=by
 intro W hp
 have H:=hid h
 have HP:=hid hp
 have hN:=h.hN
 have hj:=h.hj
 have p0:=hp.c0
 have p1:=hp.c1
 have hpl0:=hp.pl
 have hgl0:=hp.gl
 obtain ⟨gk,ck,hc,hgk,⟨n0,n1,n2,n3,n4⟩,hlc,hcm,HR⟩:=h.at hp
 dsimp only at n0 n1 n2 n3 n4
 have hpd:=h.plain
 have hts:=plain_text hpd
 dsimp only at hts
 have hkd:=h.kidsOk
 simp only [KidsOk] at hkd
 simp only [PlainNd] at hpd
 have hsum:=h.sum
 have htop:=h.top
 clear h hp
 by_cases h3:ks.length=3
 ·obtain ⟨a,c,d,rfl⟩:∃ a c d,ks=[a,c,d]:=by
   match ks,(show ks.length=3 by omega) with
   | [a,c,d],_=>exact ⟨a,c,d,rfl⟩
  simp only [wgts_cons,wgts_nil] at hsum
  have hl1:[a,c,d].length=3:=rfl
  rw [hl1] at hc
  clear hl1 hkd hpd
  obtain ⟨ZJ,hZJ⟩:∃ Z,wgt O j=Z:=⟨_,rfl⟩
  rw [hZJ] at hsum htop ⊢
  clear hZJ
  have HE1:Hid (∀ V,PenAt nd O N b cap g co P V→Calls Tryz.prog 36 #[.pointer (some ⟨P,0,none⟩),.int .i64 (c:Nat)] V fun e w'=>(∃ y:ByteArray,e=.returned (.string y)∧y.size+100≤wgt O c)∧Below V.heap.size V w'):=fun V hV=>H.out.pl (by simp) V hV
  have HE2:Hid (∀ V,PenAt nd O N b cap g co P V→Calls Tryz.prog 36 #[.pointer (some ⟨P,0,none⟩),.int .i64 (a:Nat)] V fun e w'=>(∃ y:ByteArray,e=.returned (.string y)∧y.size+100≤wgt O a)∧Below V.heap.size V w'):=fun V hV=>H.out.pl (by simp) V hV
  have HE3:Hid (∀ V,PenAt nd O N b cap g co P V→Calls Tryz.prog 36 #[.pointer (some ⟨P,0,none⟩),.int .i64 (d:Nat)] V fun e w'=>(∃ y:ByteArray,e=.returned (.string y)∧y.size+100≤wgt O d)∧Below V.heap.size V w'):=fun V hV=>H.out.pl (by simp) V hV
  obtain ⟨Za,hZa⟩:∃ Z,wgt O a=Z:=⟨_,rfl⟩
  rw [hZa] at hsum
  obtain ⟨Zc,hZc⟩:∃ Z,wgt O c=Z:=⟨_,rfl⟩
  rw [hZc] at hsum
  obtain ⟨Zd,hZd⟩:∃ Z,wgt O d=Z:=⟨_,rfl⟩
  rw [hZd] at hsum
  rw [hZc] at HE1
  rw [hZa] at HE2
  rw [hZd] at HE3
  clear hZa hZc hZd
  have HB0:=hid (Below.refl (W.heap.size+1) (W.alloc (.cells #[.int .i64 16,.int .i64 op,.int .i64 n,.string t,.int .i64 kids] 81)))
  have HPN:Hid (∀ V,Below (W.heap.size+1) (W.alloc (.cells #[.int .i64 16,.int .i64 op,.int .i64 n,.string t,.int .i64 kids] 81)) V→PenAt nd O N b cap g co P V):=fun V h=>HP.out.next (btree h)
  have HS:Hid (∀ V,Below (W.heap.size+1) (W.alloc (.cells #[.int .i64 16,.int .i64 op,.int .i64 n,.string t,.int .i64 kids] 81)) V→V.cell? ⟨gk,0,none⟩=some (.int .i64 (a:Nat))∧V.cell? ⟨gk,1,none⟩=some (.int .i64 (c:Nat))∧V.cell? ⟨W.heap.size,3,none⟩=some (.string t)):=fun V h=>⟨row_at HR.out hgk h 0 (by simp),row_at HR.out hgk h 1 (by simp),(five_new h).2.2.2.1⟩
  go_enter Tryz.func36,Tryz.ntmps36
  go_wp2_with fail
  go_region_held3 (fun V=>V.cell? ⟨gk,0,none⟩=some (.int .i64 (a:Nat))∧V.cell? ⟨gk,1,none⟩=some (.int .i64 (c:Nat))∧V.cell? ⟨W.heap.size,3,none⟩=some (.string t)) (first | (exact HS.out _ HB2.out) | (exact HS.out _ HB1.out) | (exact HS.out _ HB0.out.drew) | go_keep) (first
   | (have hgate:=HB1.out;clear hgate;go_at_call 36;refine (HE2.out _ (HPN.out _ HB1.out)).mono ?_;rintro e w2 ⟨⟨y2,rfl,hy2⟩,hb2⟩;have HB2:=hid (below_next HB1.out hb2);have k2_0:¬ (9223372036854775807 < 1+y1.size+5+t.size+4+y2.size):=(by omega);clear hb2)
   | (go_at_call 36;refine (HE1.out _ (HPN.out _ HB0.out.drew)).mono ?_;rintro e w1 ⟨⟨y1,rfl,hy1⟩,hb1⟩;have HB1:=hid (below_next HB0.out.drew hb1);have k1_0:¬ (9223372036854775807 < 1+y1.size):=(by omega);have k1_1:¬ (9223372036854775807 < 1+y1.size+5):=(by omega);have k1_2:¬ (9223372036854775807 < 1+y1.size+5+t.size):=(by omega);have k1_3:¬ (9223372036854775807 < 1+y1.size+5+t.size+4):=(by omega);clear hb1))
  have c3:=row_at HR.out hgk HB2.out 2 (by simp)
  simp at c3
  go_wp2_with fail
  refine (HE3.out _ (HPN.out _ HB2.out)).mono ?_
  rintro e w3 ⟨⟨y3,rfl,hy3⟩,hb3⟩
  have HB3:=hid (below_next HB2.out hb3)
  clear hb3
  go_wp2
  go_ret
  exact ⟨⟨_,rfl,by (try simp only [ByteArray.size_append]);show 1+y1.size+5+t.size+4+y2.size+4+y3.size+1+100≤_;omega⟩,btree HB3.out⟩
 ·obtain ⟨a,c,rfl⟩:∃ a c,ks=[a,c]:=by
   match ks,(show ks.length=2 by omega) with
   | [a,c],_=>exact ⟨a,c,rfl⟩
  simp only [wgts_cons,wgts_nil] at hsum
  have hl1:[a,c].length=2:=rfl
  rw [hl1] at hc
  clear hl1 hkd hpd
  obtain ⟨ZJ,hZJ⟩:∃ Z,wgt O j=Z:=⟨_,rfl⟩
  rw [hZJ] at hsum htop ⊢
  clear hZJ
  have HE1:Hid (∀ V,PenAt nd O N b cap g co P V→Calls Tryz.prog 36 #[.pointer (some ⟨P,0,none⟩),.int .i64 (c:Nat)] V fun e w'=>(∃ y:ByteArray,e=.returned (.string y)∧y.size+100≤wgt O c)∧Below V.heap.size V w'):=fun V hV=>H.out.pl (by simp) V hV
  have HE2:Hid (∀ V,PenAt nd O N b cap g co P V→Calls Tryz.prog 36 #[.pointer (some ⟨P,0,none⟩),.int .i64 (a:Nat)] V fun e w'=>(∃ y:ByteArray,e=.returned (.string y)∧y.size+100≤wgt O a)∧Below V.heap.size V w'):=fun V hV=>H.out.pl (by simp) V hV
  obtain ⟨Za,hZa⟩:∃ Z,wgt O a=Z:=⟨_,rfl⟩
  rw [hZa] at hsum
  obtain ⟨Zc,hZc⟩:∃ Z,wgt O c=Z:=⟨_,rfl⟩
  rw [hZc] at hsum
  rw [hZc] at HE1
  rw [hZa] at HE2
  clear hZa hZc
  have HB0:=hid (Below.refl (W.heap.size+1) (W.alloc (.cells #[.int .i64 16,.int .i64 op,.int .i64 n,.string t,.int .i64 kids] 81)))
  have HPN:Hid (∀ V,Below (W.heap.size+1) (W.alloc (.cells #[.int .i64 16,.int .i64 op,.int .i64 n,.string t,.int .i64 kids] 81)) V→PenAt nd O N b cap g co P V):=fun V h=>HP.out.next (btree h)
  have HS:Hid (∀ V,Below (W.heap.size+1) (W.alloc (.cells #[.int .i64 16,.int .i64 op,.int .i64 n,.string t,.int .i64 kids] 81)) V→V.cell? ⟨gk,0,none⟩=some (.int .i64 (a:Nat))∧V.cell? ⟨gk,1,none⟩=some (.int .i64 (c:Nat))∧V.cell? ⟨W.heap.size,3,none⟩=some (.string t)):=fun V h=>⟨row_at HR.out hgk h 0 (by simp),row_at HR.out hgk h 1 (by simp),(five_new h).2.2.2.1⟩
  go_enter Tryz.func36,Tryz.ntmps36
  go_wp2_with fail
  go_region_held3 (fun V=>V.cell? ⟨gk,0,none⟩=some (.int .i64 (a:Nat))∧V.cell? ⟨gk,1,none⟩=some (.int .i64 (c:Nat))∧V.cell? ⟨W.heap.size,3,none⟩=some (.string t)) (first | (exact HS.out _ HB2.out) | (exact HS.out _ HB1.out) | (exact HS.out _ HB0.out.drew) | go_keep) (first
   | (have hgate:=HB1.out;clear hgate;go_at_call 36;refine (HE2.out _ (HPN.out _ HB1.out)).mono ?_;rintro e w2 ⟨⟨y2,rfl,hy2⟩,hb2⟩;have HB2:=hid (below_next HB1.out hb2);have k2_0:¬ (9223372036854775807 < 1+y1.size+5+t.size+4+y2.size):=(by omega);clear hb2)
   | (go_at_call 36;refine (HE1.out _ (HPN.out _ HB0.out.drew)).mono ?_;rintro e w1 ⟨⟨y1,rfl,hy1⟩,hb1⟩;have HB1:=hid (below_next HB0.out.drew hb1);have k1_0:¬ (9223372036854775807 < 1+y1.size):=(by omega);have k1_1:¬ (9223372036854775807 < 1+y1.size+5):=(by omega);have k1_2:¬ (9223372036854775807 < 1+y1.size+5+t.size):=(by omega);have k1_3:¬ (9223372036854775807 < 1+y1.size+5+t.size+4):=(by omega);clear hb1))
  go_wp2
  go_ret
  exact ⟨⟨_,rfl,by (try simp only [ByteArray.size_append]);show 1+y1.size+5+t.size+4+y2.size+1+100≤_;omega⟩,btree HB2.out⟩
set_option maxHeartbeats 4000000 in
theorem plain_19 {nd:Nat→Nd} {O:List (List Nat)} {N b cap g co P j:Nat} {op n kids:Int} {t:ByteArray} {ks:List Nat} (h:Ctx nd O N b cap g co P j ⟨19,op,n,t,kids⟩ ks):InkOk nd O N b cap g co P j:=by
 intro W hp
 have H:=hid h
 have HP:=hid hp
 have hN:=h.hN
 have hj:=h.hj
 have p0:=hp.c0
 have p1:=hp.c1
 have hpl0:=hp.pl
 have hgl0:=hp.gl
 obtain ⟨gk,ck,hc,hgk,⟨n0,n1,n2,n3,n4⟩,hlc,hcm,HR⟩:=h.at hp
 dsimp only at n0 n1 n2 n3 n4
 have hpd:=h.plain
 have hts:=plain_text hpd
 dsimp only at hts
 have hkd:=h.kidsOk
 simp only [KidsOk] at hkd
 simp only [PlainNd] at hpd
 have hsum:=h.sum
 have htop:=h.top
 clear h hp
 by_cases h0:ks.length=0
 ·obtain rfl:ks=[]:=List.eq_nil_of_length_eq_zero h0
  have hl1:([]:List Nat).length=0:=rfl
  rw [hl1] at hc
  clear hl1 hkd hpd h0
  obtain ⟨ZJ,hZJ⟩:∃ Z,wgt O j=Z:=⟨_,rfl⟩
  rw [hZJ] at hsum htop ⊢
  clear hZJ
  go_enter Tryz.func36,Tryz.ntmps36
  go_wp2
  go_ret
  exact ⟨⟨_,rfl,by show t.size+100≤_;omega⟩,(Below.refl _ _).alloc (Nat.le_refl _) _⟩
 ·obtain ⟨a,rfl⟩:∃ a,ks=[a]:=by
   match ks,(show ks.length=1 by omega) with
   | [a],_=>exact ⟨a,rfl⟩
  simp only [wgts_cons,wgts_nil] at hsum
  have hl1:[a].length=1:=rfl
  rw [hl1] at hc
  clear hl1 hkd hpd
  obtain ⟨ZJ,hZJ⟩:∃ Z,wgt O j=Z:=⟨_,rfl⟩
  rw [hZJ] at hsum htop ⊢
  clear hZJ
  have HE1:Hid (∀ V,PenAt nd O N b cap g co P V→Calls Tryz.prog 36 #[.pointer (some ⟨P,0,none⟩),.int .i64 (a:Nat)] V fun e w'=>(∃ y:ByteArray,e=.returned (.string y)∧y.size+100≤wgt O a)∧Below V.heap.size V w'):=fun V hV=>H.out.pl (by simp) V hV
  obtain ⟨Za,hZa⟩:∃ Z,wgt O a=Z:=⟨_,rfl⟩
  rw [hZa] at hsum
  rw [hZa] at HE1
  clear hZa
  have HB0:=hid (Below.refl (W.heap.size+1) (W.alloc (.cells #[.int .i64 19,.int .i64 op,.int .i64 n,.string t,.int .i64 kids] 81)))
  have HPN:Hid (∀ V,Below (W.heap.size+1) (W.alloc (.cells #[.int .i64 19,.int .i64 op,.int .i64 n,.string t,.int .i64 kids] 81)) V→PenAt nd O N b cap g co P V):=fun V h=>HP.out.next (btree h)
  have HS:Hid (∀ V,Below (W.heap.size+1) (W.alloc (.cells #[.int .i64 19,.int .i64 op,.int .i64 n,.string t,.int .i64 kids] 81)) V→V.cell? ⟨gk,0,none⟩=some (.int .i64 (a:Nat))∧V.cell? ⟨W.heap.size,3,none⟩=some (.string t)):=fun V h=>⟨row_at HR.out hgk h 0 (by simp),(five_new h).2.2.2.1⟩
  have k0_0:¬ (9223372036854775807 < t.size+3):=by omega
  go_enter Tryz.func36,Tryz.ntmps36
  go_wp2_with fail
  go_region_held3 (fun V=>V.cell? ⟨gk,0,none⟩=some (.int .i64 (a:Nat))∧V.cell? ⟨W.heap.size,3,none⟩=some (.string t)) (first | (exact HS.out _ HB1.out) | (exact HS.out _ HB0.out.drew) | go_keep) (first
   | (go_at_call 36;refine (HE1.out _ (HPN.out _ HB0.out.drew)).mono ?_;rintro e w1 ⟨⟨y1,rfl,hy1⟩,hb1⟩;have HB1:=hid (below_next HB0.out.drew hb1);have k1_0:¬ (9223372036854775807 < t.size+3+y1.size):=(by omega);clear hb1))
  go_wp2
  go_ret
  exact ⟨⟨_,rfl,by (try simp only [ByteArray.size_append]);show t.size+3+y1.size+100≤_;omega⟩,btree HB1.out⟩
set_option maxHeartbeats 4000000 in
theorem plain_6 {nd:Nat→Nd} {O:List (List Nat)} {N b cap g co P j:Nat} {op n kids:Int} {t:ByteArray} {ks:List Nat} (h:Ctx nd O N b cap g co P j ⟨6,op,n,t,kids⟩ ks):InkOk nd O N b cap g co P j:=by
 intro W hp
 have H:=hid h
 have HP:=hid hp
 have hN:=h.hN
 have hj:=h.hj
 have p0:=hp.c0
 have p1:=hp.c1
 have hpl0:=hp.pl
 have hgl0:=hp.gl
 obtain ⟨gk,ck,hc,hgk,⟨n0,n1,n2,n3,n4⟩,hlc,hcm,HR⟩:=h.at hp
 dsimp only at n0 n1 n2 n3 n4
 have hpd:=h.plain
 have hts:=plain_text hpd
 dsimp only at hts
 have hkd:=h.kidsOk
 simp only [KidsOk] at hkd
 simp only [PlainNd] at hpd
 have hsum:=h.sum
 have htop:=h.top
 clear h hp
 have hop:=hpd.2.2.2.2.2.2.1 (by trivial)
 obtain ⟨a,rfl⟩:∃ a,ks=[a]:=by
  match ks,(show ks.length=1 by omega) with
  | [a],_=>exact ⟨a,rfl⟩
 simp only [wgts_cons,wgts_nil] at hsum
 have hl1:[a].length=1:=rfl
 rw [hl1] at hc
 clear hl1 hkd hpd
 obtain ⟨ZJ,hZJ⟩:∃ Z,wgt O j=Z:=⟨_,rfl⟩
 rw [hZJ] at hsum htop ⊢
 clear hZJ
 obtain ⟨Za,hZa⟩:∃ Z,wgt O a=Z:=⟨_,rfl⟩
 rw [hZa] at hsum
 obtain rfl | rfl:op=1∨op=2:=by omega
 ·have HE1:Hid (∀ V,PenAt nd O N b cap g co P V→Calls Tryz.prog 53 #[.pointer (some ⟨P,0,none⟩),.int .i64 (a:Nat),.int .i64 3] V fun e w'=>(∃ y:ByteArray,e=.returned (.string y)∧y.size+98≤wgt O a)∧Below V.heap.size V w'):=fun V hV=>H.out.ee (by simp) _ V hV
  rw [hZa] at HE1
  clear hZa
  have HB0:=hid (Below.refl (W.heap.size+1) (W.alloc (.cells #[.int .i64 6,.int .i64 1,.int .i64 n,.string t,.int .i64 kids] 81)))
  have HPN:Hid (∀ V,Below (W.heap.size+1) (W.alloc (.cells #[.int .i64 6,.int .i64 1,.int .i64 n,.string t,.int .i64 kids] 81)) V→PenAt nd O N b cap g co P V):=fun V h=>HP.out.next (btree h)
  have r0:=row_at HR.out hgk HB0.out 0 (by simp)
  simp at r0
  go_enter Tryz.func36,Tryz.ntmps36
  go_wp2_with fail
  refine (HE1.out _ (HPN.out _ HB0.out)).mono ?_
  rintro e w1 ⟨⟨y1,rfl,hy1⟩,hb1⟩
  have HB1:=hid (below_next HB0.out hb1)
  clear hb1
  go_wp2
  go_ret
  exact ⟨⟨_,rfl,by (try simp only [ByteArray.size_append]);show 4+y1.size+100≤_;omega⟩,btree HB1.out⟩
 ·have HE1:Hid (∀ V,PenAt nd O N b cap g co P V→Calls Tryz.prog 53 #[.pointer (some ⟨P,0,none⟩),.int .i64 (a:Nat),.int .i64 7] V fun e w'=>(∃ y:ByteArray,e=.returned (.string y)∧y.size+98≤wgt O a)∧Below V.heap.size V w'):=fun V hV=>H.out.ee (by simp) _ V hV
  rw [hZa] at HE1
  clear hZa
  have HB0:=hid (Below.refl (W.heap.size+1) (W.alloc (.cells #[.int .i64 6,.int .i64 2,.int .i64 n,.string t,.int .i64 kids] 81)))
  have HPN:Hid (∀ V,Below (W.heap.size+1) (W.alloc (.cells #[.int .i64 6,.int .i64 2,.int .i64 n,.string t,.int .i64 kids] 81)) V→PenAt nd O N b cap g co P V):=fun V h=>HP.out.next (btree h)
  have r0:=row_at HR.out hgk HB0.out 0 (by simp)
  simp at r0
  go_enter Tryz.func36,Tryz.ntmps36
  go_wp2_with fail
  refine (HE1.out _ (HPN.out _ HB0.out)).mono ?_
  rintro e w1 ⟨⟨y1,rfl,hy1⟩,hb1⟩
  have HB1:=hid (below_next HB0.out hb1)
  clear hb1
  go_wp2
  go_ret
  exact ⟨⟨_,rfl,by (try simp only [ByteArray.size_append]);show 1+y1.size+100≤_;omega⟩,btree HB1.out⟩
set_option maxHeartbeats 4000000 in
theorem bin_q {nd:Nat→Nd} {O:List (List Nat)} {N b cap g co P:Nat} {op n kids:Int} {t:ByteArray} {a c gk ck Za Zc:Nat} (W:World) (hp:PenAt nd O N b cap g co P W) (ho1:1≤op) (ho2:op≤14) (hgk:gk < W.heap.size) (_hlc:2≤ck)
  (c0:W.cell? ⟨gk,0,none⟩=some (.int .i64 (a:Nat))) (c1:W.cell? ⟨gk,1,none⟩=some (.int .i64 (c:Nat))) (hA:Za≤20000000) (hC:Zc≤20000000)
  (hE1:∀ (r:Int) V,PenAt nd O N b cap g co P V→Calls Tryz.prog 53 #[.pointer (some ⟨P,0,none⟩),.int .i64 (a:Nat),.int .i64 r] V fun e w'=>(∃ y:ByteArray,e=.returned (.string y)∧y.size+98≤Za)∧Below V.heap.size V w')
  (hE2:∀ (r:Int) V,PenAt nd O N b cap g co P V→Calls Tryz.prog 53 #[.pointer (some ⟨P,0,none⟩),.int .i64 (c:Nat),.int .i64 r] V fun e w'=>(∃ y:ByteArray,e=.returned (.string y)∧y.size+98≤Zc)∧Below V.heap.size V w') :
  Calls Tryz.prog 54 #[.pointer (some ⟨P,0,none⟩),.agg #[.int .i64 7,.int .i64 op,.int .i64 n,.string t,.int .i64 kids],.slice (some ⟨gk,0,none⟩) 2 ck] W fun e w'=>(∃ y:ByteArray,e=.returned (.string y)∧y.size≤Za+Zc)∧Below W.heap.size W w':=by
 have HP:=hid hp
 have HE1:=hid hE1
 have HE3:=hid hE2
 have HCC:Hid (∀ V,Below (W.heap.size+1) (W.alloc (.cells #[.int .i64 7,.int .i64 op,.int .i64 n,.string t,.int .i64 kids] 81)) V→V.cell? ⟨gk,0,none⟩=some (.int .i64 (a:Nat))∧V.cell? ⟨gk,1,none⟩=some (.int .i64 (c:Nat))∧V.cell? ⟨W.heap.size,1,none⟩=some (.int .i64 op)):=fun V h=>⟨((btree h).cell (p:=⟨gk,0,none⟩) hgk).trans c0,((btree h).cell (p:=⟨gk,1,none⟩) hgk).trans c1,(five_new h).2.1⟩
 have HB0:=hid (Below.refl (W.heap.size+1) (W.alloc (.cells #[.int .i64 7,.int .i64 op,.int .i64 n,.string t,.int .i64 kids] 81)))
 have HPN:Hid (∀ V,Below (W.heap.size+1) (W.alloc (.cells #[.int .i64 7,.int .i64 op,.int .i64 n,.string t,.int .i64 kids] 81)) V→PenAt nd O N b cap g co P V):=fun V h=>HP.out.next (btree h)
 clear hp hE1 hE2 c0 c1
 go_enter Tryz.func54,Tryz.ntmps54
 go_wp2_with fail
 refine (rank_q op _ ho1 ho2).mono ?_
 rintro e w0 ⟨⟨r,rfl,hr1,hr2⟩,hw0⟩
 have e0:=hw0.symm
 subst e0
 have hwr:IntKind.i64.wrap (r+1)=r+1:=by rw [IntKind.wrap_i64];omega
 by_cases h4:r=4
 ·subst h4
  go_wp2_with fail
  go_region_held3 (fun V=>V.cell? ⟨gk,0,none⟩=some (.int .i64 (a:Nat))∧V.cell? ⟨gk,1,none⟩=some (.int .i64 (c:Nat))∧V.cell? ⟨W.heap.size,1,none⟩=some (.int .i64 op)) (first | (exact HCC.out _ HB3.out) | (exact HCC.out _ HB2.out) | (exact HCC.out _ HB1.out) | (exact HCC.out _ HB0.out.drew) | go_keep) (first
   | (have hgate:=HB2.out;clear hgate;go_at_call 53;refine (HE3.out _ _ (HPN.out _ HB2.out)).mono ?_;rintro e w3 ⟨⟨y3,rfl,hy3⟩,hb3⟩;have HB3:=hid (below_next HB2.out hb3);have k4:¬ (9223372036854775807 < y1.size+1+y2.size+1+y3.size):=(by omega);clear hb3)
   | (have hgate:=HB1.out;clear hgate;go_at_call 74;refine (mark_q op _ ho1 ho2).mono ?_;rintro e w2 ⟨⟨y2,rfl,hy2⟩,hb2⟩;have HB2:=hid (below_next HB1.out hb2);have k2:¬ (9223372036854775807 < y1.size+1+y2.size):=(by omega);have k3:¬ (9223372036854775807 < y1.size+1+y2.size+1):=(by omega);clear hb2)
   | (go_at_call 53;refine (HE1.out _ _ (HPN.out _ HB0.out.drew)).mono ?_;rintro e w1 ⟨⟨y1,rfl,hy1⟩,hb1⟩;have HB1:=hid (below_next HB0.out.drew hb1);have k1:¬ (9223372036854775807 < y1.size+1):=(by omega);clear hb1))
  go_wp2
  go_ret
  exact ⟨⟨_,rfl,by (try simp only [ByteArray.size_append]);show y1.size+1+y2.size+1+y3.size≤_;omega⟩,btree HB3.out⟩
 ·have h4i:(r == 4)=false:=by simpa using h4
  go_wp2_with fail
  go_region_held3 (fun V=>V.cell? ⟨gk,0,none⟩=some (.int .i64 (a:Nat))∧V.cell? ⟨gk,1,none⟩=some (.int .i64 (c:Nat))∧V.cell? ⟨W.heap.size,1,none⟩=some (.int .i64 op)) (first | (exact HCC.out _ HB3.out) | (exact HCC.out _ HB2.out) | (exact HCC.out _ HB1.out) | (exact HCC.out _ HB0.out.drew) | go_keep) (first
   | (have hgate:=HB2.out;clear hgate;go_at_call 53;refine (HE3.out _ _ (HPN.out _ HB2.out)).mono ?_;rintro e w3 ⟨⟨y3,rfl,hy3⟩,hb3⟩;have HB3:=hid (below_next HB2.out hb3);have k4:¬ (9223372036854775807 < y1.size+1+y2.size+1+y3.size):=(by omega);clear hb3)
   | (have hgate:=HB1.out;clear hgate;go_at_call 74;refine (mark_q op _ ho1 ho2).mono ?_;rintro e w2 ⟨⟨y2,rfl,hy2⟩,hb2⟩;have HB2:=hid (below_next HB1.out hb2);have k2:¬ (9223372036854775807 < y1.size+1+y2.size):=(by omega);have k3:¬ (9223372036854775807 < y1.size+1+y2.size+1):=(by omega);clear hb2)
   | (go_at_call 53;refine (HE1.out _ _ (HPN.out _ HB0.out.drew)).mono ?_;rintro e w1 ⟨⟨y1,rfl,hy1⟩,hb1⟩;have HB1:=hid (below_next HB0.out.drew hb1);have k1:¬ (9223372036854775807 < y1.size+1):=(by omega);clear hb1))
  go_wp2
  go_ret
  exact ⟨⟨_,rfl,by (try simp only [ByteArray.size_append]);show y1.size+1+y2.size+1+y3.size≤_;omega⟩,btree HB3.out⟩
set_option maxHeartbeats 4000000 in
theorem plain_7 {nd:Nat→Nd} {O:List (List Nat)} {N b cap g co P j:Nat} {op n kids:Int} {t:ByteArray} {ks:List Nat} (h:Ctx nd O N b cap g co P j ⟨7,op,n,t,kids⟩ ks):InkOk nd O N b cap g co P j:=by
 intro W hp
 have H:=hid h
 have HP:=hid hp
 have hN:=h.hN
 have hj:=h.hj
 have p0:=hp.c0
 have p1:=hp.c1
 have hpl0:=hp.pl
 have hgl0:=hp.gl
 obtain ⟨gk,ck,hc,hgk,⟨n0,n1,n2,n3,n4⟩,hlc,hcm,HR⟩:=h.at hp
 dsimp only at n0 n1 n2 n3 n4
 have hpd:=h.plain
 have hts:=plain_text hpd
 dsimp only at hts
 have hkd:=h.kidsOk
 simp only [KidsOk] at hkd
 simp only [PlainNd] at hpd
 have hsum:=h.sum
 have htop:=h.top
 clear h hp
 have hop:=hpd.2.2.2.2.2.2.2.1 (by trivial)
 obtain ⟨a,c,rfl⟩:∃ a c,ks=[a,c]:=by
  match ks,(show ks.length=2 by omega) with
  | [a,c],_=>exact ⟨a,c,rfl⟩
 simp only [wgts_cons,wgts_nil] at hsum
 have hl1:[a,c].length=2:=rfl
 rw [hl1] at hc
 clear hl1 hkd hpd
 obtain ⟨ZJ,hZJ⟩:∃ Z,wgt O j=Z:=⟨_,rfl⟩
 rw [hZJ] at hsum htop ⊢
 clear hZJ
 have HB0:=hid (Below.refl (W.heap.size+1) (W.alloc (.cells #[.int .i64 7,.int .i64 op,.int .i64 n,.string t,.int .i64 kids] 81)))
 have HPN:Hid (∀ V,Below (W.heap.size+1) (W.alloc (.cells #[.int .i64 7,.int .i64 op,.int .i64 n,.string t,.int .i64 kids] 81)) V→PenAt nd O N b cap g co P V):=fun V h=>HP.out.next (btree h)
 have HE1:Hid (∀ (r:Int) V,PenAt nd O N b cap g co P V→Calls Tryz.prog 53 #[.pointer (some ⟨P,0,none⟩),.int .i64 (a:Nat),.int .i64 r] V fun e w'=>(∃ y:ByteArray,e=.returned (.string y)∧y.size+98≤wgt O a)∧Below V.heap.size V w'):=fun r V hV=>H.out.ee (by simp) r V hV
 have HE2:Hid (∀ (r:Int) V,PenAt nd O N b cap g co P V→Calls Tryz.prog 53 #[.pointer (some ⟨P,0,none⟩),.int .i64 (c:Nat),.int .i64 r] V fun e w'=>(∃ y:ByteArray,e=.returned (.string y)∧y.size+98≤wgt O c)∧Below V.heap.size V w'):=fun r V hV=>H.out.ee (by simp) r V hV
 obtain ⟨Za,hZa⟩:∃ Z,wgt O a=Z:=⟨_,rfl⟩
 rw [hZa] at hsum
 obtain ⟨Zc,hZc⟩:∃ Z,wgt O c=Z:=⟨_,rfl⟩
 rw [hZc] at hsum
 rw [hZa] at HE1
 rw [hZc] at HE2
 clear hZa hZc
 have hl2:2≤ck:=hlc
 have HCC:Hid (∀ V,Below (W.heap.size+1) (W.alloc (.cells #[.int .i64 7,.int .i64 op,.int .i64 n,.string t,.int .i64 kids] 81)) V→V.cell? ⟨gk,0,none⟩=some (.int .i64 (a:Nat))∧V.cell? ⟨gk,1,none⟩=some (.int .i64 (c:Nat))∧gk < V.heap.size):=fun V h=>⟨row_at HR.out hgk h 0 (by simp),row_at HR.out hgk h 1 (by simp),Nat.lt_of_lt_of_le hgk (btree h).size⟩
 go_enter Tryz.func36,Tryz.ntmps36
 go_wp2_with fail
 refine (bin_q _ (HPN.out _ HB0.out) hop.1 hop.2 (HCC.out _ HB0.out).2.2 hl2 (HCC.out _ HB0.out).1 (HCC.out _ HB0.out).2.1 (by omega) (by omega) HE1.out HE2.out).mono ?_
 rintro e w1 ⟨⟨y1,rfl,hy1⟩,hb1⟩
 have HB1:=hid (below_next HB0.out hb1)
 clear hb1
 go_wp2
 go_ret
 exact ⟨⟨_,rfl,by omega⟩,btree HB1.out⟩
end Go.Proofs.YtabbahpalemlhaaGreatDoor.Tk
namespace Go.Proofs.YtabbahpalemlhaaGreatDoor
open Go.RowKit
set_option maxRecDepth 20000
set_option maxHeartbeats 8000000 in
theorem single_at {s:Ds} {ov0:Value} {w0:World} {p n:Nat} {bad:Bool} {w:World} (hE:∀ q,p < q→EOk9 s q) (h:Ad s ov0 w0 p bad n w) (hl:n+2 * s.T≤400000+2 * p) :
  Calls Tryz.prog 116 #[.pointer (some ⟨s.D,0,none⟩)] w (DE 0 s ov0 w0 p n):=by
 have HA0:=hid h
 have hT:=h.pT.2
 have hpT:=h.pT.1
 clear h
 go_enter Tryz.func116,Tryz.ntmps116
 go_wp2_with fail
 refine (tok_at HA0.out).mono ?_
 rintro e w1 ⟨k,m,q,t,rfl,hx,hk,a1⟩
 have HAO:Hid (∀ o,Ad s ov0 w0 p bad n (w1.alloc o)):=fun o=>a1.next ((Below.refl _ _).alloc (Nat.le_refl _) o)
 have HK:=hid hk
 have HX:=hid hx
 have hDw:s.D < w1.heap.size:=by obtain ⟨ov,h1,_⟩:=a1;exact h1.lt
 have C3:∀ o,(w1.alloc o).cell? ⟨s.D,3,none⟩=some (.bool bad):=fun o=>(HAO.out o).cells.2.2.1
 have C2:∀ o,(w1.alloc o).cell? ⟨s.D,2,none⟩=some (.int .i64 p):=fun o=>(HAO.out o).cells.2.1
 have F2:∀ o,(w1.alloc o).frozen? ⟨s.D,2,none⟩=false:=fun o=>(HAO.out o).cells.2.2.2
 have hne:s.D≠w1.heap.size:=by omega
 have hne2:w1.heap.size≠s.D:=by omega
 clear hk hx a1 HA0 hDw
 cases bad
 ·by_cases h3:k=3
  ·subst h3
   have hp:=HK.out (by decide)
   have HAi:=hid ((HAO.out (.cells #[.int .i64 3,.string t,.int .i64 m,.int .i64 q] 30)).inc hp)
   go_wp2_with fail
   refine (put_at9 HAi.out ⟨3,0,m,⟨#[]⟩,0⟩ (by show (⟨#[]⟩:ByteArray).size≤1000;decide) (by have:=HAi.out.pT;omega)).mono ?_
   rintro e w1 ⟨rfl,a1⟩
   have HA1:=hid a1
   clear a1 HAi
   go_wp2
   go_end0
   exact ⟨rfl,(p+1),false,(n+1),by omega,by omega,by omega,HA1.out⟩
  ·have e3:(k == 3)=false:=by simpa using h3
   by_cases h4:k=4
   ·subst h4
    have hp:=HK.out (by decide)
    have HAi:=hid ((HAO.out (.cells #[.int .i64 4,.string t,.int .i64 m,.int .i64 q] 30)).inc hp)
    go_wp2_with fail
    refine (put_at9 HAi.out ⟨4,0,0,t,0⟩ (HX.out) (by have:=HAi.out.pT;omega)).mono ?_
    rintro e w2 ⟨rfl,a2⟩
    have HA2:=hid a2
    clear a2 HAi
    go_wp2
    go_end0
    exact ⟨rfl,(p+1),false,(n+1),by omega,by omega,by omega,HA2.out⟩
   ·have e4:(k == 4)=false:=by simpa using h4
    by_cases h1:k=1
    ·subst h1
     have hp:=HK.out (by decide)
     have HAi:=hid ((HAO.out (.cells #[.int .i64 1,.string t,.int .i64 m,.int .i64 q] 30)).inc hp)
     go_wp2_with fail
     refine (put_at9 HAi.out ⟨5,0,0,t,0⟩ (HX.out) (by have:=HAi.out.pT;omega)).mono ?_
     rintro e w3 ⟨rfl,a3⟩
     have HA3:=hid a3
     clear a3 HAi
     go_wp2
     go_end0
     exact ⟨rfl,(p+1),false,(n+1),by omega,by omega,by omega,HA3.out⟩
    ·have e1:(k == 1)=false:=by simpa using h1
     go_wp2_with fail
     refine (take_at (HAO.out _) _).mono ?_
     rintro e w4 (⟨rfl,l4,a4⟩ | ⟨rfl,a4⟩)
     ·have HA4:=hid a4
      clear a4 HAO
      go_wp2_with fail
      refine (put_at9 HA4.out ⟨1,0,0,⟨#[]⟩,0⟩ (by show (⟨#[]⟩:ByteArray).size≤1000;decide) (by have:=HA4.out.pT;omega)).mono ?_
      rintro e w5 ⟨rfl,a5⟩
      have HA5:=hid a5
      clear a5 HA4
      go_wp2
      go_end0
      exact ⟨rfl,(p+1),false,(n+1),by omega,by omega,by omega,HA5.out⟩
     ·have HA4:=hid a4
      clear a4 HAO
      go_wp2_with fail
      refine (take_at HA4.out _).mono ?_
      rintro e w6 (⟨rfl,l6,a6⟩ | ⟨rfl,a6⟩)
      ·have HA6:=hid a6
       clear a6 HA4
       go_wp2_with fail
       refine (put_at9 HA6.out ⟨2,0,0,⟨#[]⟩,0⟩ (by show (⟨#[]⟩:ByteArray).size≤1000;decide) (by have:=HA6.out.pT;omega)).mono ?_
       rintro e w7 ⟨rfl,a7⟩
       have HA7:=hid a7
       clear a7 HA6
       go_wp2
       go_end0
       exact ⟨rfl,(p+1),false,(n+1),by omega,by omega,by omega,HA7.out⟩
      ·have HA6:=hid a6
       clear a6 HA4
       go_wp2_with fail
       refine (take_at HA6.out _).mono ?_
       rintro e w8 (⟨rfl,l8,a8⟩ | ⟨rfl,a8⟩)
       ·have HA8:=hid a8
        clear a8 HA6
        go_wp2_with fail
        refine (put_at9 HA8.out ⟨2,0,1,⟨#[]⟩,0⟩ (by show (⟨#[]⟩:ByteArray).size≤1000;decide) (by have:=HA8.out.pT;omega)).mono ?_
        rintro e w9 ⟨rfl,a9⟩
        have HA9:=hid a9
        clear a9 HA8
        go_wp2
        go_end0
        exact ⟨rfl,(p+1),false,(n+1),by omega,by omega,by omega,HA9.out⟩
       ·have HA8:=hid a8
        clear a8 HA6
        go_wp2_with fail
        refine (take_at HA8.out _).mono ?_
        rintro e w10 (⟨rfl,l10,a10⟩ | ⟨rfl,a10⟩)
        ·have HA10:=hid a10
         clear a10 HA8
         go_wp2_with fail
         refine (list_at (p:=(p+1)) (fun q hq=>hE q (by omega)) HA10.out (by have:=HA10.out.pT;omega)).mono ?_
         rintro e w11 ⟨rfl,p11,b11,n11,l11a,l11b,l11c,a11⟩
         have HA11:=hid a11
         clear a11 HA10
         go_wp2
         go_end0
         exact ⟨rfl,p11,b11,n11,by omega,by omega,by omega,HA11.out⟩
        ·have HA10:=hid a10
         clear a10 HA8
         go_wp2_with fail
         refine (take_at HA10.out _).mono ?_
         rintro e w12 (⟨rfl,l12,a12⟩ | ⟨rfl,a12⟩)
         ·have HA12:=hid a12
          clear a12 HA10
          go_wp2_with fail
          refine (record_at9 (p:=(p+1)) (fun q hq=>hE q (by omega)) HA12.out (by have:=HA12.out.pT;omega)).mono ?_
          rintro e w13 ⟨rfl,p13,b13,n13,l13a,l13b,l13c,a13⟩
          have HA13:=hid a13
          clear a13 HA12
          go_wp2
          go_end0
          exact ⟨rfl,p13,b13,n13,by omega,by omega,by omega,HA13.out⟩
         ·have HA12:=hid a12
          clear a12 HA10
          go_wp2_with fail
          refine (take_at HA12.out _).mono ?_
          rintro e w14 (⟨rfl,l14,a14⟩ | ⟨rfl,a14⟩)
          ·have HA14:=hid a14
           clear a14 HA12
           go_wp2_with fail
           refine (hE (p+1) (by omega) _ _ _ _ _ HA14.out (by have:=HA14.out.pT;omega)).mono ?_
           rintro e w15 ⟨rfl,p15,b15,n15,l15a,l15b,l15c,a15⟩
           have HA15:=hid a15
           clear a15 HA14
           go_wp2_with fail
           refine (need_at HA15.out _).mono ?_
           rintro e w16 ⟨rfl,p16,b16,l16a,l16b,a16⟩
           have HA16:=hid a16
           clear a16 HA15
           go_wp2
           go_end0
           exact ⟨rfl,p16,b16,n15,by omega,by omega,by omega,HA16.out⟩
          ·have HA14:=hid a14
           clear a14 HA12
           go_wp2_with fail
           refine (stop_at HA14.out).mono ?_
           rintro e w17 ⟨rfl,a17⟩
           have HA17:=hid a17
           clear a17 HA14
           go_wp2
           go_end0
           exact ⟨rfl,p,true,n,by omega,by omega,by omega,HA17.out⟩
 ·skip
  go_wp2
  exact bodyPost_ret (results_none rfl _ _ _) rfl ⟨rfl,p,true,n,by omega,by omega,by omega,HAO.out _⟩
end Go.Proofs.YtabbahpalemlhaaGreatDoor
