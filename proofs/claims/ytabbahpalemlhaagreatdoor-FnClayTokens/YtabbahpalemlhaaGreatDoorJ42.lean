import Derived.Deep.DeepCutAuto
import Derived.Laws.AppendOwnNone
import Derived.Test.YtabbahpalemlhaaGreatDoorJ38
import Derived.Test.YtabbahpalemlhaaGreatDoorJ24
import Derived.Test.YtabbahpalemlhaaGreatDoorJ30
import Derived.Test.YtabbahpalemlhaaGreatDoorJ37
import Derived.Test.YtabbahpalemlhaaGreatDoorJ39
import Derived.Test.YtabbahpalemlhaaGreatDoorJ41
namespace Go.Proofs.YtabbahpalemlhaaGreatDoor
open Go.RowKit
set_option maxRecDepth 20000
def ST9 (s:Ds) (ov0:Value) (w0:World) (p n:Nat) (e:Ending) (w':World):Prop:=e=.returned (.tuple #[])∧∃ p' bad' n',p≤p'∧n≤n'∧n'+2 * p≤n+2 * p'∧(p < p'∨bad'=true)∧Ad s ov0 w0 p' bad' n' w'
set_option maxHeartbeats 16000000 in
theorem statement_at {s:Ds} {ov0:Value} {w0:World} {p n:Nat} {bad:Bool} {w:World} (hE:∀ q,p≤q→EOk9 s q) (h:Ad s ov0 w0 p bad n w) (hl:n+2 * s.T≤400000+2 * p) :
  Calls Tryz.prog 57 #[.pointer (some ⟨s.D,0,none⟩)] w (ST9 s ov0 w0 p n):=by
 have HA0:=hid h
 have hT:=h.pT.2
 clear h
 go_enter Tryz.func57,Tryz.ntmps57
 go_wp2_with fail
 refine (take_at HA0.out _).mono ?_
 rintro e w1 (⟨rfl,l1,a1⟩ | ⟨rfl,a1⟩)
 ·have HA1:=hid a1
  clear a1 HA0
  go_wp2_with fail
  refine (name_at9 HA1.out).mono ?_
  rintro e w2 ⟨t2,p2,b2,rfl,x2,l2a,l2b,l2c,a2⟩
  have HA2:=hid a2
  have HX2:=hid x2
  have HC2:=hid l2c
  clear a2 HA1 l2c x2
  go_wp2_with fail
  refine (params_at (p:=p2) (fun q hq=>hE q (by omega)) HA2.out (by have:=HA2.out.pT;omega)).mono ?_
  rintro e w3 ⟨m3,p3,b3,n3,rfl,l3m,l3a,l3b,l3c,a3⟩
  have HA3:=hid a3
  have z3:=a3.pT.1
  have hm3:m3≤100001:=by omega
  clear a3 HA2
  go_wp2_with fail
  refine (need_at HA3.out _).mono ?_
  rintro e w4 ⟨rfl,p4,b4,l4a,l4b,a4⟩
  have HA4:=hid a4
  clear a4 HA3
  go_wp2_with fail
  refine (hE p4 (by omega) _ _ _ _ _ HA4.out (by have:=HA4.out.pT;omega)).mono ?_
  rintro e w5 ⟨rfl,p5,b5,n5,l5a,l5b,l5c,a5⟩
  have HA5:=hid a5
  clear a5 HA4
  go_wp2_with fail
  refine (put_at9 HA5.out ⟨20,0,0,t2,(m3:Int)+1⟩ (HX2.out) (by have:=HA5.out.pT;omega)).mono ?_
  rintro e w6 ⟨rfl,a6⟩
  have HA6:=hid a6
  clear a6 HA5
  go_wp2_with fail
  refine (need_to HA6.out _).mono ?_
  rintro e w7 ⟨rfl,p7,b7,l7a,l7b,hb7,_,a7⟩
  have HA7:=hid a7
  have HB7:=hid hb7
  clear a7 HA6 hb7
  go_wp2
  go_end0
  exact ⟨rfl,p7,b7,(n5+1),by omega,by omega,by omega,.inl (by omega),HA7.out⟩
 ·have HA1:=hid a1
  clear a1 HA0
  go_wp2_with fail
  refine (take_at HA1.out _).mono ?_
  rintro e w8 (⟨rfl,l8,a8⟩ | ⟨rfl,a8⟩)
  ·have HA8:=hid a8
   clear a8 HA1
   go_wp2_with fail
   refine (name_at9 HA8.out).mono ?_
   rintro e w9 ⟨t9,p9,b9,rfl,x9,l9a,l9b,l9c,a9⟩
   have HA9:=hid a9
   have HX9:=hid x9
   have HC9:=hid l9c
   clear a9 HA8 l9c x9
   go_wp2_with fail
   refine (need_at HA9.out _).mono ?_
   rintro e w10 ⟨rfl,p10,b10,l10a,l10b,a10⟩
   have HA10:=hid a10
   clear a10 HA9
   go_wp2_with fail
   refine (hE p10 (by omega) _ _ _ _ _ HA10.out (by have:=HA10.out.pT;omega)).mono ?_
   rintro e w11 ⟨rfl,p11,b11,n11,l11a,l11b,l11c,a11⟩
   have HA11:=hid a11
   clear a11 HA10
   go_wp2_with fail
   refine (put_at9 HA11.out ⟨21,0,0,t9,1⟩ (HX9.out) (by have:=HA11.out.pT;omega)).mono ?_
   rintro e w12 ⟨rfl,a12⟩
   have HA12:=hid a12
   clear a12 HA11
   go_wp2_with fail
   refine (need_to HA12.out _).mono ?_
   rintro e w13 ⟨rfl,p13,b13,l13a,l13b,hb13,_,a13⟩
   have HA13:=hid a13
   have HB13:=hid hb13
   clear a13 HA12 hb13
   go_wp2
   go_end0
   exact ⟨rfl,p13,b13,(n11+1),by omega,by omega,by omega,.inl (by omega),HA13.out⟩
  ·have HA8:=hid a8
   clear a8 HA1
   go_wp2_with fail
   refine (take_at HA8.out _).mono ?_
   rintro e w14 (⟨rfl,l14,a14⟩ | ⟨rfl,a14⟩)
   ·have HA14:=hid a14
    clear a14 HA8
    go_wp2_with fail
    refine (hE (p+1) (by omega) _ _ _ _ _ HA14.out (by have:=HA14.out.pT;omega)).mono ?_
    rintro e w15 ⟨rfl,p15,b15,n15,l15a,l15b,l15c,a15⟩
    have HA15:=hid a15
    clear a15 HA14
    go_wp2_with fail
    refine (put_at9 HA15.out ⟨22,0,0,⟨#[]⟩,1⟩ (by show (⟨#[]⟩:ByteArray).size≤1000;decide) (by have:=HA15.out.pT;omega)).mono ?_
    rintro e w16 ⟨rfl,a16⟩
    have HA16:=hid a16
    clear a16 HA15
    go_wp2_with fail
    refine (need_to HA16.out _).mono ?_
    rintro e w17 ⟨rfl,p17,b17,l17a,l17b,hb17,_,a17⟩
    have HA17:=hid a17
    have HB17:=hid hb17
    clear a17 HA16 hb17
    go_wp2
    go_end0
    exact ⟨rfl,p17,b17,(n15+1),by omega,by omega,by omega,.inl (by omega),HA17.out⟩
   ·have HA14:=hid a14
    clear a14 HA8
    go_wp2_with fail
    refine (take_at HA14.out _).mono ?_
    rintro e w18 (⟨rfl,l18,a18⟩ | ⟨rfl,a18⟩)
    ·have HA18:=hid a18
     clear a18 HA14
     have hq1:(p+1)≤s.T:=HA18.out.pT.1
     go_wp2_with fail
     refine (tok_at HA18.out).mono ?_
     rintro e w19 ⟨kk,nn,qq,tt,rfl,hx,hk,a19⟩
     have HK:=hid hk
     have HX:=hid hx
     obtain ⟨ovb,kb,ab,bx⟩:=a19.box (.cells #[.int .i64 kk,.string tt,.int .i64 nn,.int .i64 qq] 30)
     have HKB:=hid kb
     have HAb:=hid ab
     have HBF:=hid bx
     clear hk hx a19 HA18 kb ab bx
     go_upto_region 17 with fail
     obtain ⟨xb,hxb⟩:∃ g,w19.heap.size=g:=⟨_,rfl⟩
     obtain ⟨Wb,hWb⟩:∃ W,w19.alloc (.cells #[.int .i64 kk,.string tt,.int .i64 nn,.int .i64 qq] 30)=W:=⟨_,rfl⟩
     rw [hWb] at HKB HAb HBF ⊢
     rw [hxb] at HBF ⊢
     clear hxb hWb
     obtain ⟨⟨x0,x1,x2,x3⟩,_,_,_,_⟩:=tbox (HBF.out _ _ _ _ HAb.out)
     by_cases h4:kk=4
     ·subst h4
      have hp:=HK.out (by decide)
      obtain ⟨_,d2,_,f2⟩:=HAb.out.cells
      have HAi:=hid (HAb.out.inc hp)
      go_wp2_with fail
      refine (need_at HAi.out _).mono ?_
      rintro e w20 ⟨rfl,p20,b20,l20a,l20b,a20⟩
      have HA20:=hid a20
      clear a20 HAi HAb d2 f2 x0 x1 x2 x3
      go_wp2
      go_loopw [6] (fun c6 wr=>∃ m q k:Nat,∃ bb:Bool,c6=.int .i64 m∧m≤q - p20+1∧p20≤q∧n≤k∧k+2 * p20≤n+2 * q∧Ad s ovb Wb q bb k wr) (fun _ wr=>s.T - deskP s wr)
      case atStart=>exact ⟨0,p20,n,_,rfl,by omega,by omega,by omega,by omega,HA20.out⟩
      case round =>
       obtain ⟨m,q,k,bb,rfl,lm,lq,lk,lkq,ad⟩:=hrel
       have HAr:=hid ad
       have HDP:=hid ad.deskP
       have hqT:=ad.pT.1
       clear ad HA20
       obtain ⟨_,_,c3,_⟩:=HAr.out.cells
       cases bb
       ·go_wp2_with fail
        refine (name_at9 HAr.out).mono ?_
        rintro e w21 ⟨t21,p21,b21,rfl,x21,l21a,l21b,l21c,a21⟩
        have HA21:=hid a21
        have HX21:=hid x21
        have HC21:=hid l21c
        clear a21 HAr l21c x21
        go_wp2_with fail
        refine (put_at9 HA21.out ⟨5,0,0,t21,0⟩ (HX21.out) (by have:=HA21.out.pT;omega)).mono ?_
        rintro e w22 ⟨rfl,a22⟩
        have HA22:=hid a22
        clear a22 HA21
        go_wp2_with fail
        refine (take_at HA22.out _).mono ?_
        rintro e w23 (⟨rfl,l23,a23⟩ | ⟨rfl,a23⟩)
        ·have HA23:=hid a23
         clear a23 HA22
         go_wp2
         go_roundw
         case rel=>exact ⟨m+1,(p21+1),(k+1),false,by go_num,by omega,by omega,by omega,by omega,HA23.out⟩
         case measure=>rw [HA23.out.deskP,HDP.out];have:=HA23.out.pT;omega
        ·have HA23:=hid a23
         clear a23 HA22
         obtain ⟨⟨_,x1,_,_⟩,_,_,_,_⟩:=tbox (HBF.out _ _ _ _ HA23.out)
         go_wp2_with fail
         refine (put_at9 HA23.out ⟨23,0,0,tt,(((m+1):Nat):Int)⟩ (HX.out) (by have:=HA23.out.pT;omega)).mono ?_
         rintro e w24 ⟨rfl,a24⟩
         have HA24:=hid a24
         clear a24 HA23
         clear x1
         go_wp2_with fail
         refine (need_to HA24.out _).mono ?_
         rintro e w25 ⟨rfl,p25,b25,l25a,l25b,hb25,_,a25⟩
         have HA25:=hid a25
         have HB25:=hid hb25
         clear a25 HA24 hb25
         go_wp2
         go_end0
         exact ⟨rfl,p25,b25,((k+1)+1),by omega,by omega,by omega,.inl (by omega),HA25.out.comp HKB.out⟩
       ·skip
        obtain ⟨⟨_,x1,_,_⟩,_,_,_,_⟩:=tbox (HBF.out _ _ _ _ HAr.out)
        go_wp2_with fail
        refine (put_at9 HAr.out ⟨23,0,0,tt,((m:Nat):Int)⟩ (HX.out) (by have:=HAr.out.pT;omega)).mono ?_
        rintro e w26 ⟨rfl,a26⟩
        have HA26:=hid a26
        clear a26 HAr
        clear x1
        go_wp2_with fail
        refine (need_to HA26.out _).mono ?_
        rintro e w27 ⟨rfl,p27,b27,l27a,l27b,hb27,_,a27⟩
        have HA27:=hid a27
        have HB27:=hid hb27
        clear a27 HA26 hb27
        go_wp2
        go_end0
        exact ⟨rfl,p27,b27,(k+1),by omega,by omega,by omega,.inl (by omega),HA27.out.comp HKB.out⟩
     ·have e4:(kk != 4)=true:=by simpa using h4
      go_wp2_with fail
      refine (stop_at HAb.out).mono ?_
      rintro e w28 ⟨rfl,a28⟩
      have HA28:=hid a28
      clear a28 HAb
      go_wp2
      exact bodyPost_ret (results_none rfl _ _ _) rfl ⟨rfl,(p+1),true,n,by omega,by omega,by omega,.inr rfl,HA28.out.comp HKB.out⟩
    ·have HA18:=hid a18
     clear a18 HA14
     go_wp2_with fail
     refine (stop_at HA18.out).mono ?_
     rintro e w29 ⟨rfl,a29⟩
     have HA29:=hid a29
     clear a29 HA18
     go_wp2_with fail
     refine (need_to HA29.out _).mono ?_
     rintro e w30 ⟨rfl,p30,b30,l30a,l30b,hb30,_,a30⟩
     have HA30:=hid a30
     have HB30:=hid hb30
     clear a30 HA29 hb30
     go_wp2
     go_end0
     exact ⟨rfl,p30,b30,n,by omega,by omega,by omega,.inr (HB30.out (by trivial)),HA30.out⟩
end Go.Proofs.YtabbahpalemlhaaGreatDoor
namespace Go.Proofs.YtabbahpalemlhaaGreatDoor.Tk
open Go.RowKit
set_option maxRecDepth 20000
set_option maxHeartbeats 4000000 in
theorem plain_10 {nd:Nat→Nd} {O:List (List Nat)} {N b cap g co P j:Nat} {op n kids:Int} {t:ByteArray} {ks:List Nat} (h:Ctx nd O N b cap g co P j ⟨10,op,n,t,kids⟩ ks):InkOk nd O N b cap g co P j:=by
 intro W hp
 have H:=hid h
 have HP:=hid hp
 have hN:=h.hN
 have hj:=h.hj
 have p0:=hp.c0
 have p1:=hp.c1
 have hpl0:=hp.pl
 have hgl0:=hp.gl
 obtain ⟨gk,ck,hc,hgk,⟨n0,n1,n2,n3,n4⟩,hlc,hcm,HR⟩:=h.at hp
 dsimp only at n0 n1 n2 n3 n4
 have hpd:=h.plain
 have hts:=plain_text hpd
 dsimp only at hts
 have hkd:=h.kidsOk
 simp only [KidsOk] at hkd
 simp only [PlainNd] at hpd
 have hsum:=h.sum
 have htop:=h.top
 clear h hp
 obtain ⟨a,c,rfl⟩:∃ a c,ks=[a,c]:=by
  match ks,(show ks.length=2 by omega) with
  | [a,c],_=>exact ⟨a,c,rfl⟩
 simp only [wgts_cons,wgts_nil] at hsum
 have hl1:[a,c].length=2:=rfl
 rw [hl1] at hc
 clear hl1 hkd hpd
 obtain ⟨ZJ,hZJ⟩:∃ Z,wgt O j=Z:=⟨_,rfl⟩
 rw [hZJ] at hsum htop ⊢
 clear hZJ
 have HE1:Hid (∀ V,PenAt nd O N b cap g co P V→Calls Tryz.prog 53 #[.pointer (some ⟨P,0,none⟩),.int .i64 (a:Nat),.int .i64 8] V fun e w'=>(∃ y:ByteArray,e=.returned (.string y)∧y.size+98≤wgt O a)∧Below V.heap.size V w'):=fun V hV=>H.out.ee (by simp) _ V hV
 have HE2:Hid (∀ V,PenAt nd O N b cap g co P V→Calls Tryz.prog 36 #[.pointer (some ⟨P,0,none⟩),.int .i64 (c:Nat)] V fun e w'=>(∃ y:ByteArray,e=.returned (.string y)∧y.size+100≤wgt O c)∧Below V.heap.size V w'):=fun V hV=>H.out.pl (by simp) V hV
 obtain ⟨Za,hZa⟩:∃ Z,wgt O a=Z:=⟨_,rfl⟩
 rw [hZa] at hsum
 obtain ⟨Zc,hZc⟩:∃ Z,wgt O c=Z:=⟨_,rfl⟩
 rw [hZc] at hsum
 rw [hZa] at HE1
 rw [hZc] at HE2
 clear hZa hZc
 have HB0:=hid (Below.refl (W.heap.size+1) (W.alloc (.cells #[.int .i64 10,.int .i64 op,.int .i64 n,.string t,.int .i64 kids] 81)))
 have HPN:Hid (∀ V,Below (W.heap.size+1) (W.alloc (.cells #[.int .i64 10,.int .i64 op,.int .i64 n,.string t,.int .i64 kids] 81)) V→PenAt nd O N b cap g co P V):=fun V h=>HP.out.next (btree h)
 have HS:Hid (∀ V,Below (W.heap.size+1) (W.alloc (.cells #[.int .i64 10,.int .i64 op,.int .i64 n,.string t,.int .i64 kids] 81)) V→V.cell? ⟨gk,0,none⟩=some (.int .i64 (a:Nat))∧V.cell? ⟨gk,1,none⟩=some (.int .i64 (c:Nat))):=fun V h=>⟨row_at HR.out hgk h 0 (by simp),row_at HR.out hgk h 1 (by simp)⟩
 go_enter Tryz.func36,Tryz.ntmps36
 go_wp2_with fail
 go_region_held3 (fun V=>V.cell? ⟨gk,0,none⟩=some (.int .i64 (a:Nat))∧V.cell? ⟨gk,1,none⟩=some (.int .i64 (c:Nat))) (first | (exact HS.out _ HB2.out) | (exact HS.out _ HB1.out) | (exact HS.out _ HB0.out.drew) | go_keep) (first
  | (have hgate:=HB1.out;clear hgate;go_at_call 36;refine (HE2.out _ (HPN.out _ HB1.out)).mono ?_;rintro e w2 ⟨⟨y2,rfl,hy2⟩,hb2⟩;have HB2:=hid (below_next HB1.out hb2);have k2_0:¬ (9223372036854775807 < y1.size+1+y2.size):=(by omega);have k2_1:¬ (9223372036854775807 < y1.size+1+y2.size+1):=(by omega);clear hb2)
  | (go_at_call 53;refine (HE1.out _ (HPN.out _ HB0.out.drew)).mono ?_;rintro e w1 ⟨⟨y1,rfl,hy1⟩,hb1⟩;have HB1:=hid (below_next HB0.out.drew hb1);have k1_0:¬ (9223372036854775807 < y1.size+1):=(by omega);clear hb1))
 go_wp2
 go_ret
 exact ⟨⟨_,rfl,by (try simp only [ByteArray.size_append]);show y1.size+1+y2.size+1+100≤_;omega⟩,btree HB2.out⟩
set_option maxHeartbeats 4000000 in
theorem plain_11 {nd:Nat→Nd} {O:List (List Nat)} {N b cap g co P j:Nat} {op n kids:Int} {t:ByteArray} {ks:List Nat} (h:Ctx nd O N b cap g co P j ⟨11,op,n,t,kids⟩ ks):InkOk nd O N b cap g co P j:=by
 intro W hp
 have H:=hid h
 have HP:=hid hp
 have hN:=h.hN
 have hj:=h.hj
 have p0:=hp.c0
 have p1:=hp.c1
 have hpl0:=hp.pl
 have hgl0:=hp.gl
 obtain ⟨gk,ck,hc,hgk,⟨n0,n1,n2,n3,n4⟩,hlc,hcm,HR⟩:=h.at hp
 dsimp only at n0 n1 n2 n3 n4
 have hpd:=h.plain
 have hts:=plain_text hpd
 dsimp only at hts
 have hkd:=h.kidsOk
 simp only [KidsOk] at hkd
 simp only [PlainNd] at hpd
 have hsum:=h.sum
 have htop:=h.top
 clear h hp
 obtain ⟨a,rfl⟩:∃ a,ks=[a]:=by
  match ks,(show ks.length=1 by omega) with
  | [a],_=>exact ⟨a,rfl⟩
 simp only [wgts_cons,wgts_nil] at hsum
 have hl1:[a].length=1:=rfl
 rw [hl1] at hc
 clear hl1 hkd hpd
 obtain ⟨ZJ,hZJ⟩:∃ Z,wgt O j=Z:=⟨_,rfl⟩
 rw [hZJ] at hsum htop ⊢
 clear hZJ
 have HE1:Hid (∀ V,PenAt nd O N b cap g co P V→Calls Tryz.prog 53 #[.pointer (some ⟨P,0,none⟩),.int .i64 (a:Nat),.int .i64 8] V fun e w'=>(∃ y:ByteArray,e=.returned (.string y)∧y.size+98≤wgt O a)∧Below V.heap.size V w'):=fun V hV=>H.out.ee (by simp) _ V hV
 obtain ⟨Za,hZa⟩:∃ Z,wgt O a=Z:=⟨_,rfl⟩
 rw [hZa] at hsum
 rw [hZa] at HE1
 clear hZa
 have HB0:=hid (Below.refl (W.heap.size+1) (W.alloc (.cells #[.int .i64 11,.int .i64 op,.int .i64 n,.string t,.int .i64 kids] 81)))
 have HPN:Hid (∀ V,Below (W.heap.size+1) (W.alloc (.cells #[.int .i64 11,.int .i64 op,.int .i64 n,.string t,.int .i64 kids] 81)) V→PenAt nd O N b cap g co P V):=fun V h=>HP.out.next (btree h)
 have HS:Hid (∀ V,Below (W.heap.size+1) (W.alloc (.cells #[.int .i64 11,.int .i64 op,.int .i64 n,.string t,.int .i64 kids] 81)) V→V.cell? ⟨gk,0,none⟩=some (.int .i64 (a:Nat))∧V.cell? ⟨W.heap.size,3,none⟩=some (.string t)):=fun V h=>⟨row_at HR.out hgk h 0 (by simp),(five_new h).2.2.2.1⟩
 go_enter Tryz.func36,Tryz.ntmps36
 go_wp2_with fail
 go_region_held3 (fun V=>V.cell? ⟨gk,0,none⟩=some (.int .i64 (a:Nat))∧V.cell? ⟨W.heap.size,3,none⟩=some (.string t)) (first | (exact HS.out _ HB1.out) | (exact HS.out _ HB0.out.drew) | go_keep) (first
  | (go_at_call 53;refine (HE1.out _ (HPN.out _ HB0.out.drew)).mono ?_;rintro e w1 ⟨⟨y1,rfl,hy1⟩,hb1⟩;have HB1:=hid (below_next HB0.out.drew hb1);have k1_0:¬ (9223372036854775807 < y1.size+1):=(by omega);have k1_1:¬ (9223372036854775807 < y1.size+1+t.size):=(by omega);clear hb1))
 go_wp2
 go_ret
 exact ⟨⟨_,rfl,by (try simp only [ByteArray.size_append]);show y1.size+1+t.size+100≤_;omega⟩,btree HB1.out⟩
set_option maxHeartbeats 4000000 in
theorem plain_20 {nd:Nat→Nd} {O:List (List Nat)} {N b cap g co P j:Nat} {op n kids:Int} {t:ByteArray} {ks:List Nat} (h:Ctx nd O N b cap g co P j ⟨20,op,n,t,kids⟩ ks):InkOk nd O N b cap g co P j:=by
 intro W hp
 have H:=hid h
 have HP:=hid hp
 have hN:=h.hN
 have hj:=h.hj
 have p0:=hp.c0
 have p1:=hp.c1
 have hpl0:=hp.pl
 have hgl0:=hp.gl
 obtain ⟨gk,ck,hc,hgk,⟨n0,n1,n2,n3,n4⟩,hlc,hcm,HR⟩:=h.at hp
 dsimp only at n0 n1 n2 n3 n4
 have hpd:=h.plain
 have hts:=plain_text hpd
 dsimp only at hts
 have hkd:=h.kidsOk
 simp only [KidsOk] at hkd
 simp only [PlainNd] at hpd
 have hsum:=h.sum
 have htop:=h.top
 clear h hp
 obtain ⟨ZJ,hZJ⟩:∃ Z,wgt O j=Z:=⟨_,rfl⟩
 rw [hZJ] at hsum htop ⊢
 clear hZJ
 have HB0:=hid (Below.refl (W.heap.size+1) (W.alloc (.cells #[.int .i64 20,.int .i64 op,.int .i64 n,.string t,.int .i64 kids] 81)))
 have HPN:Hid (∀ V,Below (W.heap.size+1) (W.alloc (.cells #[.int .i64 20,.int .i64 op,.int .i64 n,.string t,.int .i64 kids] 81)) V→PenAt nd O N b cap g co P V):=fun V h=>HP.out.next (btree h)
 obtain ⟨r,a,rfl⟩:∃ r a,ks=r ++ [a]:=by
  have h0:ks≠[]:=fun e=>by subst e;simp at hkd
  exact ⟨ks.dropLast,ks.getLast h0,(List.dropLast_concat_getLast h0).symm⟩
 have hrl:(r ++ [a]).length=r.length+1:=by simp
 have hmr:=H.out.kl
 rw [hrl] at hmr hc hlc
 have hga:(r ++ [a]).getD r.length 0=a:=by simp
 rw [wgts_append,wgts_cons,wgts_nil] at hsum
 have HEL:Hid (∀ V,Below (W.heap.size+1) (W.alloc (.cells #[.int .i64 20,.int .i64 op,.int .i64 n,.string t,.int .i64 kids] 81)) V→Calls Tryz.prog 55 #[.pointer (some ⟨P,0,none⟩),.slice (some ⟨gk,0,none⟩) r.length ck] V fun e w'=>(∃ y:ByteArray,e=.returned (.string y)∧y.size≤wgts O r)∧Below V.heap.size V w'):=fun V hV=>H.out.li (fun x h=>by simp [h]) (by rw [wgts_append];omega) (by simp) ck V (HPN.out V hV) (.inr ⟨gk,0,rfl,Nat.lt_of_lt_of_le hgk (btree hV).size,fun i hi=>by
  rw [Nat.zero_add]
  have:=row_at HR.out hgk hV i (by simp;omega)
  rw [this,List.getD_eq_getElem?_getD,List.getElem?_append_left hi,← List.getD_eq_getElem?_getD]⟩)
 have HEP:Hid (∀ V,PenAt nd O N b cap g co P V→Calls Tryz.prog 36 #[.pointer (some ⟨P,0,none⟩),.int .i64 (a:Nat)] V fun e w'=>(∃ y:ByteArray,e=.returned (.string y)∧y.size+100≤wgt O a)∧Below V.heap.size V w'):=fun V hV=>H.out.pl (by simp) V hV
 have HCA:Hid (∀ V,Below (W.heap.size+1) (W.alloc (.cells #[.int .i64 20,.int .i64 op,.int .i64 n,.string t,.int .i64 kids] 81)) V→V.cell? ⟨gk,r.length,none⟩=some (.int .i64 (a:Nat))):=fun V hV=>by
  have:=row_at HR.out hgk hV r.length (by simp)
  rwa [hga] at this
 obtain ⟨Zr,hZr⟩:∃ Z,wgts O r=Z:=⟨_,rfl⟩
 obtain ⟨Za,hZa⟩:∃ Z,wgt O a=Z:=⟨_,rfl⟩
 obtain ⟨m,hm⟩:∃ m,r.length=m:=⟨_,rfl⟩
 rw [hm] at HEL HCA hc hmr hlc
 rw [hZr] at HEL hsum
 rw [hZa] at HEP hsum
 clear hZr hZa hm hrl hga hkd hpd
 obtain ⟨M,hM⟩:∃ M,m+1=M:=⟨_,rfl⟩
 rw [hM] at hc hmr hlc
 have hwr:IntKind.i64.wrap ((M:Int) - 1)=(m:Int):=by rw [IntKind.wrap_i64];omega
 have hi0:(0:Int)≤(m:Int):=by omega
 have hi1:(m:Int) < (M:Int):=by omega
 have hi2:(m:Int)≤(ck:Int):=by omega
 have hi3:(M:Int)≤(ck:Int):=by omega
 clear hM
 have HE1:=HEL
 have HE2:=HEP
 have HS:Hid (∀ V,Below (W.heap.size+1) (W.alloc (.cells #[.int .i64 20,.int .i64 op,.int .i64 n,.string t,.int .i64 kids] 81)) V→V.cell? ⟨W.heap.size,3,none⟩=some (.string t)∧V.cell? ⟨gk,m,none⟩=some (.int .i64 (a:Nat))):=fun V h=>⟨(five_new h).2.2.2.1,HCA.out V h⟩
 have k0_0:¬ (9223372036854775807 < 4+t.size):=by omega
 have k0_1:¬ (9223372036854775807 < 4+t.size+1):=by omega
 go_enter Tryz.func36,Tryz.ntmps36
 go_wp2_with fail
 go_region_held3 (fun V=>V.cell? ⟨W.heap.size,3,none⟩=some (.string t)∧V.cell? ⟨gk,m,none⟩=some (.int .i64 (a:Nat))) (first | (exact HS.out _ HB2.out) | (exact HS.out _ HB1.out) | (exact HS.out _ HB0.out.drew) | go_keep) (first
  | (have hgate:=HB1.out;clear hgate;go_at_call 36;refine (HE2.out _ (HPN.out _ HB1.out)).mono ?_;rintro e w2 ⟨⟨y2,rfl,hy2⟩,hb2⟩;have HB2:=hid (below_next HB1.out hb2);have k2_0:¬ (9223372036854775807 < 4+t.size+1+y1.size+4+y2.size):=(by omega);have k2_1:¬ (9223372036854775807 < 4+t.size+1+y1.size+4+y2.size+2):=(by omega);clear hb2)
  | (go_at_call 55;refine (HE1.out _ HB0.out.drew).mono ?_;rintro e w1 ⟨⟨y1,rfl,hy1⟩,hb1⟩;have HB1:=hid (below_next HB0.out.drew hb1);have k1_0:¬ (9223372036854775807 < 4+t.size+1+y1.size):=(by omega);have k1_1:¬ (9223372036854775807 < 4+t.size+1+y1.size+4):=(by omega);clear hb1))
 go_wp2
 go_ret
 exact ⟨⟨_,rfl,by (try simp only [ByteArray.size_append]);show 4+t.size+1+y1.size+4+y2.size+2+100≤_;omega⟩,btree HB2.out⟩
end Go.Proofs.YtabbahpalemlhaaGreatDoor.Tk
namespace Go.Proofs.YtabbahpalemlhaaGreatDoor
open Go.RowKit
set_option maxRecDepth 20000
theorem info_nd0:(Tryz.prog.info? 81).map (fun i=>(i.zero,i.size,i.bytes))=some (some (.agg #[.int .i64 0,.int .i64 0,.int .i64 0,.string ⟨#[]⟩,.int .i64 0]),5,48):=by kernel_rfl
set_option maxHeartbeats 2000000 in
theorem spoil_none (R p:Nat) (ad:Option Addr) (c:Nat) (w:World) (h:Rd R w p) :
  Calls Tryz.prog 40 #[.pointer (some ⟨R,0,none⟩),.agg #[.slice ad 0 c]] w fun e w2=>∃ v,e=.returned (.agg #[v])∧(∃ ad c,v=.slice ad 0 c)∧(∃ p',p'≤p∧Rd R w2 p')∧BR R w w2:=by
 obtain ⟨i0,hi0,hz0,hz1,hz2⟩:=info_parts info_nd0
 have hR:=h.lt
 have HR:=hid h
 clear h
 have HAL:=hid ((((Below.refl w.heap.size w).alloc (Nat.le_refl _) (.cells #[.slice ad 0 c] 50)).alloc (by simp) (.cells #[.slice none 0 0] 50)).alloc (by simp;omega) (.cells #[] 81))
 have HO:Hid ((((w.alloc (.cells #[.slice ad 0 c] 50)).alloc (.cells #[.slice none 0 0] 50)).alloc (.cells #[] 81)).ownsRow (w.heap.size+2) 81 5 (.slice (some ⟨w.heap.size+2,0,none⟩) 0 0) 0 []):=by
  refine ⟨rfl,.inr ⟨w.heap.size+2,0,#[],rfl,Nat.le_refl _,?_,Nat.le_refl _,by unfold maxLen;omega,rfl,rfl⟩⟩
  have:=heap_alloc_new ((w.alloc (.cells #[.slice ad 0 c] 50)).alloc (.cells #[.slice none 0 0] 50)) (.cells #[] 81)
  rwa [World.size_alloc,World.size_alloc] at this
 have HB1:Hid (∀ v1 v2,Below w.heap.size w ((((w.alloc (.cells #[.slice ad 0 c] 50)).alloc (.cells #[v2] 50)).alloc (.cells #[] 81)).alloc (.cells #[v1] 50))):=fun v1 v2=>((((Below.refl w.heap.size w).alloc (Nat.le_refl _) _).alloc (by simp) _).alloc (by simp;omega) _).alloc (by simp;omega) _
 cases ad with
 | none =>
  clear HO HAL
  go_enter Tryz.func40,Tryz.ntmps40
  go_wp2_with fail
  exact bodyPost_ret (v:=.agg #[.slice (some ⟨w.heap.size+1+1,0,none⟩) 0 0]) (by simp [results,Tryz.results40,go_sem]) rfl ⟨_,rfl,⟨_,_,rfl⟩,⟨p,Nat.le_refl _,HR.out.next (HB1.out _ _)⟩,BR.of_below (HB1.out _ _) (by omega)⟩
 | some a =>
  go_enter Tryz.func40,Tryz.ntmps40
  go_wp2_with (at_builtin;refine wpList_append_own _ rfl _ _ 48 rfl (w.heap.size+2) 81 i0 (.agg #[.int .i64 0,.int .i64 0,.int .i64 0,.string ⟨#[]⟩,.int .i64 0]) 5 48 Tryz.underlying48 hi0 hz0 hz1 hz2 rfl (by decide) _ _ [] rfl HO.out a 0 c [] rfl rfl (fun j u hu=>by simp at hu) (fun u hu=>by simp at hu) ?c3 ?c4 ?c5 ?_)
  case c3=>unfold maxLen;omega
  case c4=>omega
  case c5=>simp
  intro v1 w1 o1 g1 _
  have h4:=own_tr (l:=[]) (m:=0) (by simpa [ndRow] using o1) rfl
  obtain ⟨⟨ad9,c9,rfl,_⟩,_⟩:=h4
  have hb1:Below w.heap.size w w1:=HAL.out.grown g1 HAL.out.size (fun q e=>by cases e;show w.heap.size≤w.heap.size+1+1;omega)
  have hw1:w.heap.size+3≤w1.heap.size:=by have:=g1.size;simp at this;omega
  have HR0:Hid ((w1.alloc (.cells #[.slice ad9 0 c9] 50)).heap[w.heap.size+1]?=some (.cells #[.slice none 0 0] 50 (0,0))):=by
   show _=_
   rw [Below.heap_alloc _ _ _ (by omega),g1.block (w.heap.size+1) (by simp) (by simp [Value.ownBlock]),Below.heap_alloc _ _ _ (by simp)]
   have:=heap_alloc_new (w.alloc (.cells #[.slice (some a) 0 c] 50)) (.cells #[.slice none 0 0] 50)
   rwa [World.size_alloc] at this
  have HB2:=hid ((hb1.alloc hb1.size (.cells #[.slice ad9 0 c9] 50)).setCell (p:=⟨w.heap.size+1,0,none⟩) (by show w.heap.size≤w.heap.size+1;omega) (.slice ad9 0 c9))
  have r0:=cell_hp HR0.out 0
  have rf:=frozen_hp HR0.out 0
  simp at r0
  clear o1 g1 HO HAL HB1 hb1
  go_wp2
  exact bodyPost_ret (v:=.agg #[.slice ad9 0 c9]) (by simp [results,Tryz.results40,go_sem,r0]) rfl ⟨_,rfl,⟨_,_,rfl⟩,⟨p,Nat.le_refl _,HR.out.next HB2.out⟩,BR.of_below HB2.out (by omega)⟩
set_option maxHeartbeats 4000000 in
theorem ops3_at {s:Ds} {p:Nat} (hn:OpsOk9 s 4 p) (hN:∀ q,p < q→OpsOk9 s 3 q) (bad:Bool) (n:Nat) (ov0:Value) (w0 w:World) (h:Ad s ov0 w0 p bad n w) (hl:n+2 * s.T≤400000+2 * p) :
  Calls Tryz.prog 91 #[.pointer (some ⟨s.D,0,none⟩),.int .i64 3] w (DE 0 s ov0 w0 p n):=by
 have HA0:=hid h
 have hT:=h.pT.2
 clear h
 obtain ⟨_,_,c3,_⟩:=HA0.out.cells
 cases bad
 ·go_enter Tryz.func91,Tryz.ntmps91
  go_wp2_with fail
  refine (take_at HA0.out _).mono ?_
  rintro e w1 (⟨rfl,l1,a1⟩ | ⟨rfl,a1⟩)
  ·have HA1:=hid a1
   clear a1 HA0
   go_wp2_with fail
   refine (hN (p+1) (by omega) _ _ _ _ _ HA1.out (by have:=HA1.out.pT;omega)).mono ?_
   rintro e w2 ⟨rfl,p2,b2,n2,l2a,l2b,l2c,a2⟩
   have HA2:=hid a2
   clear a2 HA1
   go_wp2_with fail
   refine (put_at9 HA2.out ⟨6,1,0,⟨#[]⟩,1⟩ (by show (⟨#[]⟩:ByteArray).size≤1000;decide) (by have:=HA2.out.pT;omega)).mono ?_
   rintro e w3 ⟨rfl,a3⟩
   have HA3:=hid a3
   clear a3 HA2
   go_wp2
   exact bodyPost_ret (results_none rfl _ _ _) rfl ⟨rfl,p2,b2,(n2+1),by omega,by omega,by omega,HA3.out⟩
  ·have HA1:=hid a1
   clear a1 HA0
   go_wp2_with fail
   refine (hn _ _ _ _ _ HA1.out (by have:=HA1.out.pT;omega)).mono ?_
   rintro e w4 ⟨rfl,p4,b4,n4,l4a,l4b,l4c,a4⟩
   have HA4:=hid a4
   clear a4 HA1
   go_wp2
   exact bodyPost_ret (results_none rfl _ _ _) rfl ⟨rfl,p4,b4,n4,by omega,by omega,by omega,HA4.out⟩
 ·go_enter Tryz.func91,Tryz.ntmps91
  go_wp2
  exact bodyPost_ret (results_none rfl _ _ _) rfl ⟨rfl,p,true,n,by omega,by omega,by omega,HA0.out⟩
set_option maxHeartbeats 4000000 in
theorem ops7_at {s:Ds} {p:Nat} (hE:∀ q,p < q→EOk9 s q) (hN:∀ q,p < q→OpsOk9 s 7 q) (bad:Bool) (n:Nat) (ov0:Value) (w0 w:World) (h:Ad s ov0 w0 p bad n w) (hl:n+2 * s.T≤400000+2 * p) :
  Calls Tryz.prog 91 #[.pointer (some ⟨s.D,0,none⟩),.int .i64 7] w (DE 0 s ov0 w0 p n):=by
 have HA0:=hid h
 have hT:=h.pT.2
 clear h
 obtain ⟨_,_,c3,_⟩:=HA0.out.cells
 cases bad
 ·go_enter Tryz.func91,Tryz.ntmps91
  go_wp2_with fail
  refine (take_at HA0.out _).mono ?_
  rintro e w1 (⟨rfl,l1,a1⟩ | ⟨rfl,a1⟩)
  ·have HA1:=hid a1
   clear a1 HA0
   go_wp2_with fail
   refine (hN (p+1) (by omega) _ _ _ _ _ HA1.out (by have:=HA1.out.pT;omega)).mono ?_
   rintro e w2 ⟨rfl,p2,b2,n2,l2a,l2b,l2c,a2⟩
   have HA2:=hid a2
   clear a2 HA1
   go_wp2_with fail
   refine (put_at9 HA2.out ⟨6,2,0,⟨#[]⟩,1⟩ (by show (⟨#[]⟩:ByteArray).size≤1000;decide) (by have:=HA2.out.pT;omega)).mono ?_
   rintro e w3 ⟨rfl,a3⟩
   have HA3:=hid a3
   clear a3 HA2
   go_wp2
   exact bodyPost_ret (results_none rfl _ _ _) rfl ⟨rfl,p2,b2,(n2+1),by omega,by omega,by omega,HA3.out⟩
  ·have HA1:=hid a1
   clear a1 HA0
   go_wp2_with fail
   refine (post_at hE HA1.out (by have:=HA1.out.pT;omega)).mono ?_
   rintro e w4 ⟨rfl,p4,b4,n4,l4a,l4b,l4c,a4⟩
   have HA4:=hid a4
   clear a4 HA1
   go_wp2
   exact bodyPost_ret (results_none rfl _ _ _) rfl ⟨rfl,p4,b4,n4,by omega,by omega,by omega,HA4.out⟩
 ·go_enter Tryz.func91,Tryz.ntmps91
  go_wp2
  exact bodyPost_ret (results_none rfl _ _ _) rfl ⟨rfl,p,true,n,by omega,by omega,by omega,HA0.out⟩
set_option maxHeartbeats 8000000 in
theorem opsB_at {s:Ds} {p:Nat} (r:Int) (hr1:1≤r) (hr6:r≤6) (h3:r≠3) (h7:r≠7) (hn:OpsOk9 s (r+1) p) (hN:∀ q,p < q→OpsOk9 s (r+1) q) (bad:Bool) (n:Nat) (ov0:Value) (w0 w:World) (h:Ad s ov0 w0 p bad n w) (hl:n+2 * s.T≤400000+2 * p) :
  Calls Tryz.prog 91 #[.pointer (some ⟨s.D,0,none⟩),.int .i64 r] w (DE 0 s ov0 w0 p n):=by
 have HA0:=hid h
 have hT:=h.pT.2
 clear h
 obtain ⟨_,_,c3,_⟩:=HA0.out.cells
 have r3:(r == 3)=false:=by simpa using h3
 have r7:(r == 7)=false:=by simpa using h7
 cases bad
 ·go_enter Tryz.func91,Tryz.ntmps91
  go_wp2_with fail
  refine (hn _ _ _ _ _ HA0.out (by have:=HA0.out.pT;omega)).mono ?_
  rintro e w1 ⟨rfl,p1,b1,n1,l1a,l1b,l1c,a1⟩
  have HA1:=hid a1
  clear a1 HA0
  go_wp2
  go_loopw [] (fun wr=>∃ q k:Nat,∃ bb:Bool,p≤q∧n≤k∧k+2 * p≤n+2 * q∧Ad s ov0 w0 q bb k wr) (fun wr=>s.T - deskP s wr)
  case atStart=>exact ⟨p1,n1,b1,by omega,by omega,by omega,HA1.out⟩
  case round =>
   obtain ⟨q,k,bb,lq,lk,lkq,ad⟩:=hrel
   have HAr:=hid ad
   have HDP:=hid ad.deskP
   have hqT:=ad.pT.1
   clear ad HA1
   go_wp2_with fail
   refine (op_at _ HAr.out).mono ?_
   rintro e w2 ⟨r2,rfl,l2a,l2b,a2⟩
   have HA2:=hid a2
   have HL2:=hid l2b
   clear a2 HAr l2b
   rcases Nat.eq_zero_or_pos r2 with rfl | hr1
   ·skip
    go_wp2
    exact bodyPost_ret (results_none rfl _ _ _) rfl ⟨rfl,q,bb,k,by omega,by omega,by omega,HA2.out⟩
   ·have hr0:((r2:Int) == 0)=false:=by simp;omega
    have hqt:=HL2.out (by omega)
    obtain ⟨_,d2,_,f2⟩:=HA2.out.cells
    have HAi:=hid (HA2.out.inc hqt)
    go_wp2_with fail
    refine (hN (q+1) (by omega) _ _ _ _ _ HAi.out (by omega)).mono ?_
    rintro e w3 ⟨rfl,p3,b3,n3,l3a,l3b,l3c,a3⟩
    have HA3:=hid a3
    clear a3 HAi
    clear d2 f2 HA2
    go_wp2_with fail
    refine (put_at9 HA3.out ⟨7,(r2:Int),0,⟨#[]⟩,2⟩ (by show (⟨#[]⟩:ByteArray).size≤1000;decide) (by have:=HA3.out.pT;omega)).mono ?_
    rintro e w4 ⟨rfl,a4⟩
    have HA4:=hid a4
    clear a4 HA3
    by_cases h4:r=4
    ·subst h4
     go_wp2
     exact bodyPost_ret (results_none rfl _ _ _) rfl ⟨rfl,p3,b3,(n3+1),by omega,by omega,by omega,HA4.out⟩
    ·have r4:(r == 4)=false:=by simpa using h4
     go_wp2
     go_roundw
     case rel=>exact ⟨p3,(n3+1),b3,by omega,by omega,by omega,HA4.out⟩
     case measure=>rw [HA4.out.deskP,HDP.out];have:=HA4.out.pT;omega
 ·go_enter Tryz.func91,Tryz.ntmps91
  go_wp2
  exact bodyPost_ret (results_none rfl _ _ _) rfl ⟨rfl,p,true,n,by omega,by omega,by omega,HA0.out⟩
end Go.Proofs.YtabbahpalemlhaaGreatDoor
