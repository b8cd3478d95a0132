import Derived.Deep.DeepCutAuto
import Derived.Test.YtabbahpalemlhaaGreatDoorJ24
import Derived.Test.YtabbahpalemlhaaGreatDoorJ30
import Derived.Test.YtabbahpalemlhaaGreatDoorJ37
namespace Go.Proofs.YtabbahpalemlhaaGreatDoor
open Go.RowKit
set_option maxRecDepth 20000
set_option maxHeartbeats 8000000 in
theorem params_at {s:Ds} {ov0:Value} {w0:World} {p n:Nat} {bad:Bool} {w:World} (hE:∀ q,p≤q→EOk9 s q) (h:Ad s ov0 w0 p bad n w) (hl:n+2 * s.T≤400000+2 * p) :
  Calls Tryz.prog 77 #[.pointer (some ⟨s.D,0,none⟩)] w (DI9 s ov0 w0 p n):=by
 have HA0:=hid h
 have hT:=h.pT.2
 clear h
 go_enter Tryz.func77,Tryz.ntmps77
 go_wp2_with fail
 refine (need_at HA0.out _).mono ?_
 rintro e w1 ⟨rfl,p1,b1,l1a,l1b,a1⟩
 have HA1:=hid a1
 clear a1 HA0
 go_wp2
 go_loopw [3] (fun c3 wr=>∃ m q k:Nat,∃ bb:Bool,c3=.int .i64 m∧p1≤q∧n≤k∧k+2 * p1≤n+2 * q∧m≤q - p1∧Ad s ov0 w0 q bb k wr) (fun _ wr=>s.T - deskP s wr)
 case atStart=>exact ⟨0,p1,n,_,rfl,by omega,by omega,by omega,by omega,HA1.out⟩
 case round =>
  obtain ⟨m,q,k,bb,rfl,lq,lk,lkq,lm,ad⟩:=hrel
  have HAr:=hid ad
  have HDP:=hid ad.deskP
  have hqT:=ad.pT.1
  clear ad HA1
  obtain ⟨_,_,c3,_⟩:=HAr.out.cells
  cases bb
  ·rcases Nat.eq_zero_or_pos m with rfl | hm1
   ·go_wp2_with fail
    refine (is_at HAr.out _).mono ?_
    rintro e w2 (⟨rfl,l2,a2⟩ | ⟨rfl,a2⟩)
    ·have HA2:=hid a2
     clear a2 HAr
     go_wp2_with fail
     refine (need_at HA2.out _).mono ?_
     rintro e w3 ⟨rfl,p3,b3,l3a,l3b,a3⟩
     have HA3:=hid a3
     clear a3 HA2
     go_wp2
     go_ret
     exact ⟨0,p3,b3,k,rfl,by omega,by omega,by omega,by omega,HA3.out⟩
    ·have HA2:=hid a2
     clear a2 HAr
     go_wp2_with fail
     refine (name_at9 HA2.out).mono ?_
     rintro e w4 ⟨t4,p4,b4,rfl,x4,l4a,l4b,l4c,a4⟩
     have HA4:=hid a4
     have HX4:=hid x4
     have HC4:=hid l4c
     clear a4 HA2 l4c x4
     go_wp2_with fail
     refine (take_at HA4.out _).mono ?_
     rintro e w5 (⟨rfl,l5,a5⟩ | ⟨rfl,a5⟩)
     ·have HA5:=hid a5
      clear a5 HA4
      go_wp2_with fail
      refine (hE (p4+1) (by omega) _ _ _ _ _ HA5.out (by have:=HA5.out.pT;omega)).mono ?_
      rintro e w6 ⟨rfl,p6,b6,n6,l6a,l6b,l6c,a6⟩
      have HA6:=hid a6
      clear a6 HA5
      go_wp2_with fail
      refine (put_at9 HA6.out ⟨19,0,0,t4,1⟩ (HX4.out) (by have:=HA6.out.pT;omega)).mono ?_
      rintro e w7 ⟨rfl,a7⟩
      have HA7:=hid a7
      clear a7 HA6
      go_wp2_with fail
      refine (take_at HA7.out _).mono ?_
      rintro e w8 (⟨rfl,l8,a8⟩ | ⟨rfl,a8⟩)
      ·have HA8:=hid a8
       clear a8 HA7
       go_wp2
       go_roundw
       case rel=>exact ⟨0+1,(p6+1),(n6+1),false,by go_num,by omega,by omega,by omega,by omega,HA8.out⟩
       case measure=>rw [HA8.out.deskP,HDP.out];have:=HA8.out.pT;omega
      ·have HA8:=hid a8
       clear a8 HA7
       go_wp2_with fail
       refine (need_at HA8.out _).mono ?_
       rintro e w9 ⟨rfl,p9,b9,l9a,l9b,a9⟩
       have HA9:=hid a9
       clear a9 HA8
       go_wp2
       go_ret
       exact ⟨(0+1),p9,b9,(n6+1),rfl,by omega,by omega,by omega,by omega,HA9.out⟩
     ·have HA5:=hid a5
      clear a5 HA4
      go_wp2_with fail
      refine (put_at9 HA5.out ⟨19,0,0,t4,0⟩ (HX4.out) (by have:=HA5.out.pT;omega)).mono ?_
      rintro e w10 ⟨rfl,a10⟩
      have HA10:=hid a10
      clear a10 HA5
      go_wp2_with fail
      refine (take_at HA10.out _).mono ?_
      rintro e w11 (⟨rfl,l11,a11⟩ | ⟨rfl,a11⟩)
      ·have HA11:=hid a11
       clear a11 HA10
       go_wp2
       go_roundw
       case rel=>exact ⟨0+1,(p4+1),(k+1),false,by go_num,by omega,by omega,by omega,by omega,HA11.out⟩
       case measure=>rw [HA11.out.deskP,HDP.out];have:=HA11.out.pT;omega
      ·have HA11:=hid a11
       clear a11 HA10
       go_wp2_with fail
       refine (need_at HA11.out _).mono ?_
       rintro e w12 ⟨rfl,p12,b12,l12a,l12b,a12⟩
       have HA12:=hid a12
       clear a12 HA11
       go_wp2
       go_ret
       exact ⟨(0+1),p12,b12,(k+1),rfl,by omega,by omega,by omega,by omega,HA12.out⟩
   ·have hm2:(0:Int) < (m:Int):=by omega
    go_wp2_with fail
    refine (name_at9 HAr.out).mono ?_
    rintro e w13 ⟨t13,p13,b13,rfl,x13,l13a,l13b,l13c,a13⟩
    have HA13:=hid a13
    have HX13:=hid x13
    have HC13:=hid l13c
    clear a13 HAr l13c x13
    go_wp2_with fail
    refine (take_at HA13.out _).mono ?_
    rintro e w14 (⟨rfl,l14,a14⟩ | ⟨rfl,a14⟩)
    ·have HA14:=hid a14
     clear a14 HA13
     go_wp2_with fail
     refine (hE (p13+1) (by omega) _ _ _ _ _ HA14.out (by have:=HA14.out.pT;omega)).mono ?_
     rintro e w15 ⟨rfl,p15,b15,n15,l15a,l15b,l15c,a15⟩
     have HA15:=hid a15
     clear a15 HA14
     go_wp2_with fail
     refine (put_at9 HA15.out ⟨19,0,0,t13,1⟩ (HX13.out) (by have:=HA15.out.pT;omega)).mono ?_
     rintro e w16 ⟨rfl,a16⟩
     have HA16:=hid a16
     clear a16 HA15
     go_wp2_with fail
     refine (take_at HA16.out _).mono ?_
     rintro e w17 (⟨rfl,l17,a17⟩ | ⟨rfl,a17⟩)
     ·have HA17:=hid a17
      clear a17 HA16
      go_wp2
      go_roundw
      case rel=>exact ⟨m+1,(p15+1),(n15+1),false,by go_num,by omega,by omega,by omega,by omega,HA17.out⟩
      case measure=>rw [HA17.out.deskP,HDP.out];have:=HA17.out.pT;omega
     ·have HA17:=hid a17
      clear a17 HA16
      go_wp2_with fail
      refine (need_at HA17.out _).mono ?_
      rintro e w18 ⟨rfl,p18,b18,l18a,l18b,a18⟩
      have HA18:=hid a18
      clear a18 HA17
      go_wp2
      go_ret
      exact ⟨(m+1),p18,b18,(n15+1),rfl,by omega,by omega,by omega,by omega,HA18.out⟩
    ·have HA14:=hid a14
     clear a14 HA13
     go_wp2_with fail
     refine (put_at9 HA14.out ⟨19,0,0,t13,0⟩ (HX13.out) (by have:=HA14.out.pT;omega)).mono ?_
     rintro e w19 ⟨rfl,a19⟩
     have HA19:=hid a19
     clear a19 HA14
     go_wp2_with fail
     refine (take_at HA19.out _).mono ?_
     rintro e w20 (⟨rfl,l20,a20⟩ | ⟨rfl,a20⟩)
     ·have HA20:=hid a20
      clear a20 HA19
      go_wp2
      go_roundw
      case rel=>exact ⟨m+1,(p13+1),(k+1),false,by go_num,by omega,by omega,by omega,by omega,HA20.out⟩
      case measure=>rw [HA20.out.deskP,HDP.out];have:=HA20.out.pT;omega
     ·have HA20:=hid a20
      clear a20 HA19
      go_wp2_with fail
      refine (need_at HA20.out _).mono ?_
      rintro e w21 ⟨rfl,p21,b21,l21a,l21b,a21⟩
      have HA21:=hid a21
      clear a21 HA20
      go_wp2
      go_ret
      exact ⟨(m+1),p21,b21,(k+1),rfl,by omega,by omega,by omega,by omega,HA21.out⟩
  ·skip
   go_wp2_with fail
   refine (need_at HAr.out _).mono ?_
   rintro e w22 ⟨rfl,p22,b22,l22a,l22b,a22⟩
   have HA22:=hid a22
   clear a22 HAr
   go_wp2
   go_ret
   exact ⟨m,p22,b22,k,rfl,by omega,by omega,by omega,by omega,HA22.out⟩
set_option maxHeartbeats 4000000 in
theorem e_at9 {s:Ds} {ov0:Value} {w0:World} {p n:Nat} {bad:Bool} {w:World} (hE:∀ q,p < q→EOk9 s q) (hO:OpsOk9 s 1 p) (h:Ad s ov0 w0 p bad n w) (hl:n+2 * s.T≤400000+2 * p) :
  Calls Tryz.prog 79 #[.pointer (some ⟨s.D,0,none⟩)] w (DE 0 s ov0 w0 p n):=by
 have HA0:=hid h
 have hT:=h.pT.2
 clear h
 go_enter Tryz.func79,Tryz.ntmps79
 go_wp2_with fail
 refine (take_at HA0.out _).mono ?_
 rintro e w1 (⟨rfl,l1,a1⟩ | ⟨rfl,a1⟩)
 ·have HA1:=hid a1
  clear a1 HA0
  go_wp2_with fail
  refine (name_at9 HA1.out).mono ?_
  rintro e w2 ⟨t2,p2,b2,rfl,x2,l2a,l2b,l2c,a2⟩
  have HA2:=hid a2
  have HX2:=hid x2
  have HC2:=hid l2c
  clear a2 HA1 l2c x2
  go_wp2_with fail
  refine (need_at HA2.out _).mono ?_
  rintro e w3 ⟨rfl,p3,b3,l3a,l3b,a3⟩
  have HA3:=hid a3
  clear a3 HA2
  go_wp2_with fail
  refine (hE p3 (by omega) _ _ _ _ _ HA3.out (by have:=HA3.out.pT;omega)).mono ?_
  rintro e w4 ⟨rfl,p4,b4,n4,l4a,l4b,l4c,a4⟩
  have HA4:=hid a4
  clear a4 HA3
  go_wp2_with fail
  refine (need_at HA4.out _).mono ?_
  rintro e w5 ⟨rfl,p5,b5,l5a,l5b,a5⟩
  have HA5:=hid a5
  clear a5 HA4
  go_wp2_with fail
  refine (hE p5 (by omega) _ _ _ _ _ HA5.out (by have:=HA5.out.pT;omega)).mono ?_
  rintro e w6 ⟨rfl,p6,b6,n6,l6a,l6b,l6c,a6⟩
  have HA6:=hid a6
  clear a6 HA5
  go_wp2_with fail
  refine (put_at9 HA6.out ⟨14,0,0,t2,2⟩ (HX2.out) (by have:=HA6.out.pT;omega)).mono ?_
  rintro e w7 ⟨rfl,a7⟩
  have HA7:=hid a7
  clear a7 HA6
  go_wp2
  go_end0
  exact ⟨rfl,p6,b6,(n6+1),by omega,by omega,by omega,HA7.out⟩
 ·have HA1:=hid a1
  clear a1 HA0
  go_wp2_with fail
  refine (take_at HA1.out _).mono ?_
  rintro e w8 (⟨rfl,l8,a8⟩ | ⟨rfl,a8⟩)
  ·have HA8:=hid a8
   clear a8 HA1
   go_wp2_with fail
   refine (hE (p+1) (by omega) _ _ _ _ _ HA8.out (by have:=HA8.out.pT;omega)).mono ?_
   rintro e w9 ⟨rfl,p9,b9,n9,l9a,l9b,l9c,a9⟩
   have HA9:=hid a9
   clear a9 HA8
   go_wp2_with fail
   refine (need_at HA9.out _).mono ?_
   rintro e w10 ⟨rfl,p10,b10,l10a,l10b,a10⟩
   have HA10:=hid a10
   clear a10 HA9
   go_wp2_with fail
   refine (hE p10 (by omega) _ _ _ _ _ HA10.out (by have:=HA10.out.pT;omega)).mono ?_
   rintro e w11 ⟨rfl,p11,b11,n11,l11a,l11b,l11c,a11⟩
   have HA11:=hid a11
   clear a11 HA10
   go_wp2_with fail
   refine (need_at HA11.out _).mono ?_
   rintro e w12 ⟨rfl,p12,b12,l12a,l12b,a12⟩
   have HA12:=hid a12
   clear a12 HA11
   go_wp2_with fail
   refine (hE p12 (by omega) _ _ _ _ _ HA12.out (by have:=HA12.out.pT;omega)).mono ?_
   rintro e w13 ⟨rfl,p13,b13,n13,l13a,l13b,l13c,a13⟩
   have HA13:=hid a13
   clear a13 HA12
   go_wp2_with fail
   refine (put_at9 HA13.out ⟨13,0,0,⟨#[]⟩,3⟩ (by show (⟨#[]⟩:ByteArray).size≤1000;decide) (by have:=HA13.out.pT;omega)).mono ?_
   rintro e w14 ⟨rfl,a14⟩
   have HA14:=hid a14
   clear a14 HA13
   go_wp2
   go_end0
   exact ⟨rfl,p13,b13,(n13+1),by omega,by omega,by omega,HA14.out⟩
  ·have HA8:=hid a8
   clear a8 HA1
   go_wp2_with fail
   refine (take_at HA8.out _).mono ?_
   rintro e w15 (⟨rfl,l15,a15⟩ | ⟨rfl,a15⟩)
   ·have HA15:=hid a15
    clear a15 HA8
    go_wp2_with fail
    refine (params_at (p:=(p+1)) (fun q hq=>hE q (by omega)) HA15.out (by have:=HA15.out.pT;omega)).mono ?_
    rintro e w16 ⟨m16,p16,b16,n16,rfl,l16m,l16a,l16b,l16c,a16⟩
    have HA16:=hid a16
    have z16:=a16.pT.1
    have hm16:m16≤100001:=by omega
    clear a16 HA15
    go_wp2_with fail
    refine (need_at HA16.out _).mono ?_
    rintro e w17 ⟨rfl,p17,b17,l17a,l17b,a17⟩
    have HA17:=hid a17
    clear a17 HA16
    go_wp2_with fail
    refine (hE p17 (by omega) _ _ _ _ _ HA17.out (by have:=HA17.out.pT;omega)).mono ?_
    rintro e w18 ⟨rfl,p18,b18,n18,l18a,l18b,l18c,a18⟩
    have HA18:=hid a18
    clear a18 HA17
    go_wp2_with fail
    refine (put_at9 HA18.out ⟨15,0,0,⟨#[]⟩,(m16:Int)+1⟩ (by show (⟨#[]⟩:ByteArray).size≤1000;decide) (by have:=HA18.out.pT;omega)).mono ?_
    rintro e w19 ⟨rfl,a19⟩
    have HA19:=hid a19
    clear a19 HA18
    go_wp2
    go_end0
    exact ⟨rfl,p18,b18,(n18+1),by omega,by omega,by omega,HA19.out⟩
   ·have HA15:=hid a15
    clear a15 HA8
    go_wp2_with fail
    refine (hO _ _ _ _ _ HA15.out (by have:=HA15.out.pT;omega)).mono ?_
    rintro e w20 ⟨rfl,p20,b20,n20,l20a,l20b,l20c,a20⟩
    have HA20:=hid a20
    clear a20 HA15
    go_wp2
    go_end0
    exact ⟨rfl,p20,b20,n20,by omega,by omega,by omega,HA20.out⟩
end Go.Proofs.YtabbahpalemlhaaGreatDoor
namespace Go.Proofs.YtabbahpalemlhaaGreatDoor.Tk
open Go.RowKit
set_option maxRecDepth 20000
set_option maxHeartbeats 4000000 in
theorem plain_15 {nd:Nat→Nd} {O:List (List Nat)} {N b cap g co P j:Nat} {op n kids:Int} {t:ByteArray} {ks:List Nat} (h:Ctx nd O N b cap g co P j ⟨15,op,n,t,kids⟩ ks):InkOk nd O N b cap g co P j:=by
 intro W hp
 have H:=hid h
 have HP:=hid hp
 have hN:=h.hN
 have hj:=h.hj
 have p0:=hp.c0
 have p1:=hp.c1
 have hpl0:=hp.pl
 have hgl0:=hp.gl
 obtain ⟨gk,ck,hc,hgk,⟨n0,n1,n2,n3,n4⟩,hlc,hcm,HR⟩:=h.at hp
 dsimp only at n0 n1 n2 n3 n4
 have hpd:=h.plain
 have hts:=plain_text hpd
 dsimp only at hts
 have hkd:=h.kidsOk
 simp only [KidsOk] at hkd
 simp only [PlainNd] at hpd
 have hsum:=h.sum
 have htop:=h.top
 clear h hp
 obtain ⟨ZJ,hZJ⟩:∃ Z,wgt O j=Z:=⟨_,rfl⟩
 rw [hZJ] at hsum htop ⊢
 clear hZJ
 have HB0:=hid (Below.refl (W.heap.size+1) (W.alloc (.cells #[.int .i64 15,.int .i64 op,.int .i64 n,.string t,.int .i64 kids] 81)))
 have HPN:Hid (∀ V,Below (W.heap.size+1) (W.alloc (.cells #[.int .i64 15,.int .i64 op,.int .i64 n,.string t,.int .i64 kids] 81)) V→PenAt nd O N b cap g co P V):=fun V h=>HP.out.next (btree h)
 obtain ⟨r,a,rfl⟩:∃ r a,ks=r ++ [a]:=by
  have h0:ks≠[]:=fun e=>by subst e;simp at hkd
  exact ⟨ks.dropLast,ks.getLast h0,(List.dropLast_concat_getLast h0).symm⟩
 have hrl:(r ++ [a]).length=r.length+1:=by simp
 have hmr:=H.out.kl
 rw [hrl] at hmr hc hlc
 have hga:(r ++ [a]).getD r.length 0=a:=by simp
 rw [wgts_append,wgts_cons,wgts_nil] at hsum
 have HEL:Hid (∀ V,Below (W.heap.size+1) (W.alloc (.cells #[.int .i64 15,.int .i64 op,.int .i64 n,.string t,.int .i64 kids] 81)) V→Calls Tryz.prog 55 #[.pointer (some ⟨P,0,none⟩),.slice (some ⟨gk,0,none⟩) r.length ck] V fun e w'=>(∃ y:ByteArray,e=.returned (.string y)∧y.size≤wgts O r)∧Below V.heap.size V w'):=fun V hV=>H.out.li (fun x h=>by simp [h]) (by rw [wgts_append];omega) (by simp) ck V (HPN.out V hV) (.inr ⟨gk,0,rfl,Nat.lt_of_lt_of_le hgk (btree hV).size,fun i hi=>by
  rw [Nat.zero_add]
  have:=row_at HR.out hgk hV i (by simp;omega)
  rw [this,List.getD_eq_getElem?_getD,List.getElem?_append_left hi,← List.getD_eq_getElem?_getD]⟩)
 have HEP:Hid (∀ V,PenAt nd O N b cap g co P V→Calls Tryz.prog 36 #[.pointer (some ⟨P,0,none⟩),.int .i64 (a:Nat)] V fun e w'=>(∃ y:ByteArray,e=.returned (.string y)∧y.size+100≤wgt O a)∧Below V.heap.size V w'):=fun V hV=>H.out.pl (by simp) V hV
 have HCA:Hid (∀ V,Below (W.heap.size+1) (W.alloc (.cells #[.int .i64 15,.int .i64 op,.int .i64 n,.string t,.int .i64 kids] 81)) V→V.cell? ⟨gk,r.length,none⟩=some (.int .i64 (a:Nat))):=fun V hV=>by
  have:=row_at HR.out hgk hV r.length (by simp)
  rwa [hga] at this
 obtain ⟨Zr,hZr⟩:∃ Z,wgts O r=Z:=⟨_,rfl⟩
 obtain ⟨Za,hZa⟩:∃ Z,wgt O a=Z:=⟨_,rfl⟩
 obtain ⟨m,hm⟩:∃ m,r.length=m:=⟨_,rfl⟩
 rw [hm] at HEL HCA hc hmr hlc
 rw [hZr] at HEL hsum
 rw [hZa] at HEP hsum
 clear hZr hZa hm hrl hga hkd hpd
 obtain ⟨M,hM⟩:∃ M,m+1=M:=⟨_,rfl⟩
 rw [hM] at hc hmr hlc
 have hwr:IntKind.i64.wrap ((M:Int) - 1)=(m:Int):=by rw [IntKind.wrap_i64];omega
 have hi0:(0:Int)≤(m:Int):=by omega
 have hi1:(m:Int) < (M:Int):=by omega
 have hi2:(m:Int)≤(ck:Int):=by omega
 have hi3:(M:Int)≤(ck:Int):=by omega
 clear hM
 have HE1:=HEL
 have HE2:=HEP
 have HS:Hid (∀ V,Below (W.heap.size+1) (W.alloc (.cells #[.int .i64 15,.int .i64 op,.int .i64 n,.string t,.int .i64 kids] 81)) V→V.cell? ⟨gk,m,none⟩=some (.int .i64 (a:Nat))):=fun V h=>HCA.out V h
 go_enter Tryz.func36,Tryz.ntmps36
 go_wp2_with fail
 go_region_held3 (fun V=>V.cell? ⟨gk,m,none⟩=some (.int .i64 (a:Nat))) (first | (exact HS.out _ HB2.out) | (exact HS.out _ HB1.out) | (exact HS.out _ HB0.out.drew) | go_keep) (first
  | (have hgate:=HB1.out;clear hgate;go_at_call 36;refine (HE2.out _ (HPN.out _ HB1.out)).mono ?_;rintro e w2 ⟨⟨y2,rfl,hy2⟩,hb2⟩;have HB2:=hid (below_next HB1.out hb2);have k2_0:¬ (9223372036854775807 < 3+y1.size+5+y2.size):=(by omega);clear hb2)
  | (go_at_call 55;refine (HE1.out _ HB0.out.drew).mono ?_;rintro e w1 ⟨⟨y1,rfl,hy1⟩,hb1⟩;have HB1:=hid (below_next HB0.out.drew hb1);have k1_0:¬ (9223372036854775807 < 3+y1.size):=(by omega);have k1_1:¬ (9223372036854775807 < 3+y1.size+5):=(by omega);clear hb1))
 go_wp2
 go_ret
 exact ⟨⟨_,rfl,by (try simp only [ByteArray.size_append]);show 3+y1.size+5+y2.size+100≤_;omega⟩,btree HB2.out⟩
end Go.Proofs.YtabbahpalemlhaaGreatDoor.Tk
namespace Go.Proofs.YtabbahpalemlhaaGreatDoor
open Go.RowKit
set_option maxRecDepth 20000
theorem ndRow_take (O:List Nd) (k:Nat):(ndRow O).take (k * 5)=ndRow (O.take k):=by
 induction k generalizing O with
 | zero=>simp [ndRow]
 | succ k ih =>
  cases O with
  | nil=>simp [ndRow]
  | cons x O =>
   rw [ndRow_cons,List.take_succ_cons,ndRow_cons,show (k+1) * 5=(ndF x).length+k * 5 by show (k+1) * 5=5+k * 5;omega,List.take_length_add_append,ih]
theorem own_take {w:World} {B g m cap n:Nat} {O:List Nd} (h:w.ownsRow B 81 5 (.slice (some ⟨g,0,none⟩) m cap) m (ndRow O)) (hO:O.length=m) (hn:n≤m):w.ownsRow B 81 5 (.slice (some ⟨g,0,none⟩) n cap) n (ndRow (O.take n)):=by
 obtain ⟨_,⟨e,_⟩ | ⟨g',cap',cur,e,h1,h2,h3,h4,h5,h6⟩⟩:=h
 ·cases e
 ·cases e
  refine ⟨by rw [ndRow_length,List.length_take,hO];congr 1;omega,.inr ⟨g,cap,cur,rfl,h1,h2,by omega,h4,h5,?_⟩⟩
  rw [← ndRow_take,← h6,List.take_take]
  congr 1
  omega
theorem Ad.row {s:Ds} {ov1:Value} {w1:World} {B m p n:Nat} {v:Value} {L:List Nd} {bad:Bool} {w:World} (h:Ad s ov1 w1 p bad n w) (hr:w1.ownsRow B 81 5 v m (ndRow L)) (hD:s.D < B) (ho:∀ k,ov1.ownBlock=some k→k < B):w.ownsRow B 81 5 v m (ndRow L):=by
 obtain ⟨ov,_,b⟩:=h
 refine own_keepD hr fun k cur e hc=>b.sv.block k (Array.getElem?_eq_some_iff.1 hc).1 fun e2=>?_
 have hk:=(own_loD hr k e).1
 rcases e2 with e2 | e2
 ·omega
 ·have:=ho k e2
  omega
theorem Dk.sl {s:Ds} {p n:Nat} {bad:Bool} {ov:Value} {w:World} (h:Dk s p bad n ov w):∃ O:List Nd,O.length=n∧(∀ x ∈ O,x.text.size≤1000)∧w.ownsRow s.B 81 5 ov n (ndRow O)∧((ov=.slice none 0 0∧n=0)∨∃ g cap,ov=.slice (some ⟨g,0,none⟩) n cap∧n≤cap∧g < w.heap.size∧RowIn w g O):=by
 obtain ⟨O,h1,h2,h3⟩:=h.out
 refine ⟨O,h1,h3,h2,?_⟩
 rcases h2.2 with ⟨e,h0⟩ | ⟨g,cap,cur,e,_,b,c,_,_,d⟩
 ·exact .inl ⟨e,h0⟩
 ·refine .inr ⟨g,cap,e,c,(Array.getElem?_eq_some_iff.1 b).1,cur,b,fun j u hu=>?_⟩
  rw [← d] at hu
  have hj:=(List.getElem?_eq_some_iff.1 hu).1
  rw [List.length_take] at hj
  rw [List.getElem?_take_of_lt (by omega)] at hu
  simpa using hu
theorem own_some {w:World} {B e size n:Nat} {v:Value} {xs:List Value} (h:w.ownsRow B e size v n xs) (hv:v≠.slice none 0 0):∃ g cap,v=.slice (some ⟨g,0,none⟩) n cap:=by
 rcases h.2 with ⟨e,_⟩ | ⟨g,cap,cur,e,_⟩
 ·exact absurd e hv
 ·exact ⟨g,cap,e⟩
set_option maxHeartbeats 32000000 in
theorem list_at {s:Ds} {ov0:Value} {w0:World} {p n:Nat} {bad:Bool} {w:World} (hE:∀ q,p≤q→EOk9 s q) (h:Ad s ov0 w0 p bad n w) (hl:n+2 * s.T≤400000+2 * p) :
  Calls Tryz.prog 119 #[.pointer (some ⟨s.D,0,none⟩)] w (DE 1 s ov0 w0 p n):=by
 obtain ⟨i0,hi0,hz0,hz1,hz2⟩:=info_parts info_nd9
 have HHI:=hid (And.intro hi0 (And.intro hz0 (And.intro hz1 hz2)))
 clear hi0 hz0 hz1 hz2
 have HA0:=hid h
 have hT:=h.pT.2
 clear h
 go_enter Tryz.func119,Tryz.ntmps119
 go_wp2_with fail
 refine (take_at HA0.out _).mono ?_
 rintro e w1 (⟨rfl,l1,a1⟩ | ⟨rfl,a1⟩)
 ·have HA1:=hid a1
  clear a1 HA0
  go_wp2_with fail
  refine (put_at9 HA1.out ⟨8,0,0,⟨#[]⟩,0⟩ (by show (⟨#[]⟩:ByteArray).size≤1000;decide) (by omega)).mono ?_
  rintro e w2 ⟨rfl,a2⟩
  have HA2:=hid a2
  clear a2 HA1
  go_wp2
  exact bodyPost_ret (results_none rfl _ _ _) rfl ⟨rfl,(p+1),false,(n+1),by omega,by omega,by omega,HA2.out⟩
 ·have HA1:=hid a1
  have hs1:∃ va vc,w1.cell? ⟨s.D,5,none⟩=some (.slice va n vc):=by
   obtain ⟨ov,h1,_⟩:=a1
   obtain ⟨O,_,h8,_⟩:=h1.out
   obtain ⟨va,vc,rfl⟩:=own_sl h8
   exact ⟨va,vc,h1.cells.2.2.2.2⟩
  obtain ⟨va,vc,c5⟩:=hs1
  clear a1 HA0
  go_wp2_with fail
  refine (hE p (by omega) _ _ _ _ _ HA1.out (by have:=HA1.out.pT;omega)).mono ?_
  rintro e w2 ⟨rfl,p2,b2,n2,l2a,l2b,l2c,a2⟩
  have HA2:=hid a2
  clear a2 HA1 c5
  go_wp2_with fail
  refine (take_at HA2.out _).mono ?_
  rintro e w3 (⟨rfl,l3,a3⟩ | ⟨rfl,a3⟩)
  ·obtain ⟨ov3,hd3,ht3⟩:=a3
   have HD3:=hid hd3
   have HT3:=hid ht3
   have hDw:=hd3.lt
   have HAL:=hid ((Below.refl w3.heap.size w3).alloc (Nat.le_refl _) (.cells #[] 81))
   have HDA:=hid (hd3.next HAL.out)
   obtain ⟨O,hO,hOx,how,hcase⟩:=HDA.out.sl
   have hsl3:=hd3.sl
   have HOL:=hid hO
   have HOX:=hid hOx
   have HOW:=hid how
   clear hd3 ht3 hO hOx how HA2
   have c5:=HDA.out.cells.2.2.2.2
   have HOA:Hid ((w3.alloc (.cells #[] 81)).ownsRow w3.heap.size 81 5 (.slice (some ⟨w3.heap.size,0,none⟩) 0 0) 0 []):=by
    refine ⟨rfl,.inr ⟨w3.heap.size,0,#[],rfl,Nat.le_refl _,heap_alloc_new w3 (.cells #[] 81),Nat.le_refl _,by unfold maxLen;omega,rfl,rfl⟩⟩
   rcases hcase with ⟨rfl,h0⟩ | ⟨g,cap,rfl,hnc,hgw,hrow⟩
   ·subst h0
    have hn0:n=0:=by omega
    subst hn0
    clear hsl3
    have HLL:Hid ((O.drop 0).length=0):=by show _=_;rw [List.length_drop,HOL.out]
    have HON:=hid (List.eq_nil_of_length_eq_zero HOL.out)
    go_upto_region 6 with fail
    obtain ⟨w4,hw4⟩:∃ W,w3.alloc (.cells #[] 81)=W:=⟨_,rfl⟩
    have HB4:Hid (Below w3.heap.size w3 w4):=by show Below _ _ _;rw [← hw4];exact HAL.out
    obtain ⟨gb,hgb⟩:∃ g,w3.heap.size=g:=⟨_,rfl⟩
    have HO4:Hid (w4.ownsRow w3.heap.size 81 5 (.slice (some ⟨gb,0,none⟩) 0 0) 0 (ndRow (O.drop 0))):=by show World.ownsRow _ _ _ _ _ _ _;rw [← hw4,HON.out,← hgb];exact HOA.out
    rw [hw4,hgb]
    clear hw4 hgb c5 HAL HDA HOA
    have HD4:=hid (HD3.out.next HB4.out)
    have HT4:=hid (HT3.out.next HB4.out)
    have d5:=HD4.out.cells.2.2.2.2
    have f5:=HD4.out.fz 5
    have HD5:=hid (HD4.out.setout (ov':=.slice none 0 0) (O:=O.take 0) (World.grownBy.refl _ _) (⟨by simp [ndRow],.inl ⟨rfl,rfl⟩⟩) (by simp) (fun x hx=>HOX.out x (List.mem_of_mem_take hx)))
    have HT5:Hid (Dt s ov0 w0 (.slice none 0 0) (w4.setCell ⟨s.D,5,none⟩ (.slice none 0 0))):=HT4.out.trans (Dt.setout (World.grownBy.refl _ _) (fun k hk=>.inl hk))
    have HR5:Hid ((w4.setCell ⟨s.D,5,none⟩ (.slice none 0 0)).ownsRow w3.heap.size 81 5 (.slice (some ⟨gb,0,none⟩) 0 0) 0 (ndRow (O.drop 0))):=own_keepD HO4.out fun k cur e _=>Below.heap_setCell _ _ _ _ (fun e2=>by have:=(own_loD HO4.out k e).1;have:k=s.D:=e2;omega)
    go_upto_region 7 with fail
    obtain ⟨W5,hW5⟩:∃ W,w4.setCell ⟨s.D,5,none⟩ (.slice none 0 0)=W:=⟨_,rfl⟩
    rw [hW5] at HD5 HT5 HR5 ⊢
    clear hW5 d5 f5 HD4 HT4 HO4 HB4
    have HA5:Hid (Ad s (.slice none 0 0) W5 (p2+1) false 0 W5):=⟨_,HD5.out,Dt.refl _ _ _⟩
    clear HD5
    go_wp2_with fail
    refine (name_at9 HA5.out).mono ?_
    rintro e w6 ⟨t6,p6,b6,rfl,x6,l6a,l6b,_,a6⟩
    have HA6:=hid a6
    have HX6:=hid x6
    clear a6 HA5 x6
    go_wp2_with fail
    refine (need_at HA6.out _).mono ?_
    rintro e w7 ⟨rfl,p7,b7,l7a,l7b,a7⟩
    have HA7:=hid a7
    clear a7 HA6
    go_wp2_with fail
    refine (hE p7 (by omega) _ _ _ _ _ HA7.out (by have:=HA7.out.pT;omega)).mono ?_
    rintro e w8 ⟨rfl,p8,b8,n8,l8a,l8b,l8c,a8⟩
    have HR8:=hid (a8.row HR5.out hDw (fun k hk=>by simp [Value.ownBlock] at hk))
    obtain ⟨ov8,hd8,ht8⟩:=a8
    have HD8:=hid hd8
    have HT8:=hid ht8
    have z8:=hd8.pT
    have hB8:=hd8.Bz
    obtain ⟨O8,hO8,hx8,how8,_⟩:=hd8.sl
    have HOL8:=hid hO8
    have HOX8:=hid hx8
    have HOW8:=hid how8
    obtain ⟨va8,vc8,rfl⟩:=own_sl how8
    clear hd8 ht8 hO8 hx8 how8 HA7 HR5
    have d8:=HD8.out.cells.2.2.2.2
    have HC8:=hid (HR8.out.cells (g:=gb) rfl)
    have HKS:Hid (∀ V:World,w8.grownBy V (Value.ownBlock (.slice va8 n8 vc8))→V.cell? ⟨s.D,5,none⟩=some (.slice va8 n8 vc8)∧V.frozen? ⟨s.D,5,none⟩=false):=fun V hg=>by
     have hk:=hg.block s.D HD8.out.lt (fun e=>HD8.out.ne e.symm)
     obtain ⟨q,hq⟩:=HD8.out.box
     exact ⟨cell_hp (hk.trans hq) 5,frozen_hp (hk.trans hq) 5⟩
    have HFIN:Hid (∀ (v':Value) (V:World),w8.grownBy V (Value.ownBlock (.slice va8 n8 vc8))→V.ownsRow s.B 81 5 v' (n8+0) (ndRow O8 ++ ndRow (O.drop 0))→(v'.ownBlock=Value.ownBlock (.slice va8 n8 vc8)∨v'.ownBlock=some w8.heap.size)→Ad s ov0 w0 p8 b8 (n8+0) (V.setCell ⟨s.D,5,none⟩ v')):=fun v' V hg ho hr=>by
     refine ⟨v',HD8.out.setout (O:=O8 ++ (O.drop 0)) hg (by rw [ndRow_append];exact ho) (by rw [List.length_append,HOL8.out,HLL.out]) ?_,(HT5.out.trans HT8.out).trans (Dt.setout hg fun k hk=>?_)⟩
     ·intro y hy
      rcases List.mem_append.1 hy with hy | hy
      ·exact HOX8.out y hy
      ·exact HOX.out y (List.mem_of_mem_drop hy)
     ·rcases hr with hr | hr
      ·exact .inl (by rw [← hr];exact hk)
      ·rw [hr] at hk
       injection hk with hk
       exact .inr (by omega)
    go_wp2_with (at_builtin;refine wpList_append_own_at _ rfl (.tmp 48) (.tmp 49) 48 rfl s.B 81 i0 (.agg #[.int .i64 0,.int .i64 0,.int .i64 0,.string ⟨#[]⟩,.int .i64 0]) 5 48 Tryz.underlying48 HHI.out.1 HHI.out.2.1 HHI.out.2.2.1 HHI.out.2.2.2 rfl (by decide) (.slice va8 n8 vc8) n8 (ndRow O8) rfl HOW8.out ⟨gb,0,none⟩ (0) 0 (ndRow (O.drop 0)) rfl (by rw [ndRow_length,HLL.out]) HC8.out (ndRow_one _) (by unfold maxLen;omega) (by omega) hB8 ?_;intro v9 w9 o9 g9 n9 q9;obtain ⟨m1,m2⟩:=HKS.out _ g9;have HA9:=hid (HFIN.out _ _ g9 o9 q9);have hv9:=own_sl o9;obtain ⟨a9,c9,rfl⟩:=hv9;clear o9 g9 n9 q9)
    refine (take_at HA9.out _).mono ?_
    rintro e w11 (⟨rfl,l11,a11⟩ | ⟨rfl,a11⟩)
    ·have HA11:=hid a11
     clear a11 HA9
     go_wp2_with fail
     refine (hE (p8+1) (by omega) _ _ _ _ _ HA11.out (by have:=HA11.out.pT;omega)).mono ?_
     rintro e w12 ⟨rfl,p12,b12,n12,l12a,l12b,l12c,a12⟩
     have HA12:=hid a12
     clear a12 HA11
     go_wp2_with fail
     refine (need_at HA12.out _).mono ?_
     rintro e w13 ⟨rfl,p13,b13,l13a,l13b,a13⟩
     have HA13:=hid a13
     clear a13 HA12
     go_wp2_with fail
     refine (put_at9 HA13.out ⟨16,0,0,t6,3⟩ HX6.out (by have:=HA13.out.pT;omega)).mono ?_
     rintro e w14 ⟨rfl,a14⟩
     have HA14:=hid a14
     clear a14 HA13
     go_wp2
     exact bodyPost_ret (results_none rfl _ _ _) rfl ⟨rfl,p13,b13,(n12+1),by omega,by omega,by omega,HA14.out⟩
    ·have HA11:=hid a11
     clear a11 HA9
     go_wp2_with fail
     refine (need_at HA11.out _).mono ?_
     rintro e w13 ⟨rfl,p13,b13,l13a,l13b,a13⟩
     have HA13:=hid a13
     clear a13 HA11
     go_wp2_with fail
     refine (put_at9 HA13.out ⟨16,0,0,t6,2⟩ HX6.out (by have:=HA13.out.pT;omega)).mono ?_
     rintro e w14 ⟨rfl,a14⟩
     have HA14:=hid a14
     clear a14 HA13
     go_wp2
     exact bodyPost_ret (results_none rfl _ _ _) rfl ⟨rfl,p13,b13,(n8+0+1),by omega,by omega,by omega,HA14.out⟩
   ·have hcn:n≤cap:=by omega
    have i1:(n:Int)≤(n2:Int):=by omega
    have i2:(n:Int)≤(cap:Int):=by omega
    have HW3:Hid (w3.ownsRow s.B 81 5 (.slice (some ⟨g,0,none⟩) n2 cap) n2 (ndRow O)):=by
     have hg3:g < w3.heap.size:=by
      obtain ⟨O',_,_,_,hc⟩:=hsl3
      rcases hc with ⟨e,_⟩ | ⟨g',c',e,_,hh,_⟩
      ·cases e
      ·cases e;exact hh
     exact own_keepD HOW.out fun k cur e _=>by
      simp only [Value.ownBlock,Option.some.injEq] at e
      subst e
      exact (HAL.out.block g hg3).symm
    have hg3:g < w3.heap.size:=by
     obtain ⟨O',_,_,_,hc⟩:=hsl3
     rcases hc with ⟨e,_⟩ | ⟨g',c',e,_,hh,_⟩
     ·cases e
     ·cases e;exact hh
    have HOW3:=HW3
    clear hsl3 hgw
    by_cases hnk:n < cap
    ·have HDC:=hid (hrow.part n (by rw [HOL.out];omega)).2
     have HLL:Hid ((O.drop n).length=n2 - n):=by show _=_;rw [List.length_drop,HOL.out]
     go_upto_region 6 with (at_builtin;refine wpList_append_own_at _ rfl (.tmp 21) (.tmp 27) 48 rfl w3.heap.size 81 i0 (.agg #[.int .i64 0,.int .i64 0,.int .i64 0,.string ⟨#[]⟩,.int .i64 0]) 5 48 Tryz.underlying48 HHI.out.1 HHI.out.2.1 HHI.out.2.2.1 HHI.out.2.2.2 rfl (by decide) (.slice (some ⟨w3.heap.size,0,none⟩) 0 0) 0 [] rfl HOA.out ⟨g,n * 5,none⟩ (n2 - n) (cap - n) (ndRow (O.drop n)) (by first | rfl | (simp [Act.eval];done) | (simp [Act.eval];omega)) (by rw [ndRow_length,HLL.out]) (HDC.out) (by first | exact ndRow_one _ | simp) (by unfold maxLen;omega) (by omega) (by simp) ?_;intro v4 w4 o4 g4 n4 q4;have HO4a:=hid o4;have HB4:=hid (HAL.out.grown g4 HAL.out.size (fun k e=>by simp [Value.ownBlock] at e;omega));have hv4:=own_some o4 (fun e=>by have:=n4.1 e;simp at this);obtain ⟨gb,cb,rfl⟩:=hv4;clear o4 g4 n4 q4)
     have HO4:Hid (w4.ownsRow w3.heap.size 81 5 (.slice (some ⟨gb,0,none⟩) (n2 - n) cb) (n2 - n) (ndRow (O.drop n))):=by show World.ownsRow _ _ _ _ _ _ _;simpa using HO4a.out
     clear HO4a c5 HAL HDA HOA HOW hrow
     have HD4:=hid (HD3.out.next HB4.out)
     have HT4:=hid (HT3.out.next HB4.out)
     have d5:=HD4.out.cells.2.2.2.2
     have f5:=HD4.out.fz 5
     have HD5:=hid (HD4.out.setout (ov':=.slice (some ⟨g,0,none⟩) n cap) (O:=O.take n) (World.grownBy.refl _ _) (own_take (own_below HOW3.out HB4.out) HOL.out (by omega)) (by rw [List.length_take,HOL.out];omega) (fun x hx=>HOX.out x (List.mem_of_mem_take hx)))
     have HT5:Hid (Dt s ov0 w0 (.slice (some ⟨g,0,none⟩) n cap) (w4.setCell ⟨s.D,5,none⟩ (.slice (some ⟨g,0,none⟩) n cap))):=HT4.out.trans (Dt.setout (World.grownBy.refl _ _) (fun k hk=>.inl hk))
     have HR5:Hid ((w4.setCell ⟨s.D,5,none⟩ (.slice (some ⟨g,0,none⟩) n cap)).ownsRow w3.heap.size 81 5 (.slice (some ⟨gb,0,none⟩) (n2 - n) cb) (n2 - n) (ndRow (O.drop n))):=own_keepD HO4.out fun k cur e _=>Below.heap_setCell _ _ _ _ (fun e2=>by have:=(own_loD HO4.out k e).1;have:k=s.D:=e2;omega)
     go_upto_region 7 with fail
     obtain ⟨W5,hW5⟩:∃ W,w4.setCell ⟨s.D,5,none⟩ (.slice (some ⟨g,0,none⟩) n cap)=W:=⟨_,rfl⟩
     rw [hW5] at HD5 HT5 HR5 ⊢
     clear hW5 d5 f5 HD4 HT4 HO4 HB4
     have HA5:Hid (Ad s (.slice (some ⟨g,0,none⟩) n cap) W5 (p2+1) false n W5):=⟨_,HD5.out,Dt.refl _ _ _⟩
     clear HD5
     go_wp2_with fail
     refine (name_at9 HA5.out).mono ?_
     rintro e w6 ⟨t6,p6,b6,rfl,x6,l6a,l6b,_,a6⟩
     have HA6:=hid a6
     have HX6:=hid x6
     clear a6 HA5 x6
     go_wp2_with fail
     refine (need_at HA6.out _).mono ?_
     rintro e w7 ⟨rfl,p7,b7,l7a,l7b,a7⟩
     have HA7:=hid a7
     clear a7 HA6
     go_wp2_with fail
     refine (hE p7 (by omega) _ _ _ _ _ HA7.out (by have:=HA7.out.pT;omega)).mono ?_
     rintro e w8 ⟨rfl,p8,b8,n8,l8a,l8b,l8c,a8⟩
     have HR8:=hid (a8.row HR5.out hDw (fun k hk=>by simp [Value.ownBlock] at hk;omega))
     obtain ⟨ov8,hd8,ht8⟩:=a8
     have HD8:=hid hd8
     have HT8:=hid ht8
     have z8:=hd8.pT
     have hB8:=hd8.Bz
     obtain ⟨O8,hO8,hx8,how8,_⟩:=hd8.sl
     have HOL8:=hid hO8
     have HOX8:=hid hx8
     have HOW8:=hid how8
     obtain ⟨va8,vc8,rfl⟩:=own_sl how8
     clear hd8 ht8 hO8 hx8 how8 HA7 HR5
     have d8:=HD8.out.cells.2.2.2.2
     have HC8:=hid (HR8.out.cells (g:=gb) rfl)
     have HKS:Hid (∀ V:World,w8.grownBy V (Value.ownBlock (.slice va8 n8 vc8))→V.cell? ⟨s.D,5,none⟩=some (.slice va8 n8 vc8)∧V.frozen? ⟨s.D,5,none⟩=false):=fun V hg=>by
      have hk:=hg.block s.D HD8.out.lt (fun e=>HD8.out.ne e.symm)
      obtain ⟨q,hq⟩:=HD8.out.box
      exact ⟨cell_hp (hk.trans hq) 5,frozen_hp (hk.trans hq) 5⟩
     have HFIN:Hid (∀ (v':Value) (V:World),w8.grownBy V (Value.ownBlock (.slice va8 n8 vc8))→V.ownsRow s.B 81 5 v' (n8+(n2 - n)) (ndRow O8 ++ ndRow (O.drop n))→(v'.ownBlock=Value.ownBlock (.slice va8 n8 vc8)∨v'.ownBlock=some w8.heap.size)→Ad s ov0 w0 p8 b8 (n8+(n2 - n)) (V.setCell ⟨s.D,5,none⟩ v')):=fun v' V hg ho hr=>by
      refine ⟨v',HD8.out.setout (O:=O8 ++ (O.drop n)) hg (by rw [ndRow_append];exact ho) (by rw [List.length_append,HOL8.out,HLL.out]) ?_,(HT5.out.trans HT8.out).trans (Dt.setout hg fun k hk=>?_)⟩
      ·intro y hy
       rcases List.mem_append.1 hy with hy | hy
       ·exact HOX8.out y hy
       ·exact HOX.out y (List.mem_of_mem_drop hy)
      ·rcases hr with hr | hr
       ·exact .inl (by rw [← hr];exact hk)
       ·rw [hr] at hk
        injection hk with hk
        exact .inr (by omega)
     go_wp2_with (at_builtin;refine wpList_append_own_at _ rfl (.tmp 48) (.tmp 49) 48 rfl s.B 81 i0 (.agg #[.int .i64 0,.int .i64 0,.int .i64 0,.string ⟨#[]⟩,.int .i64 0]) 5 48 Tryz.underlying48 HHI.out.1 HHI.out.2.1 HHI.out.2.2.1 HHI.out.2.2.2 rfl (by decide) (.slice va8 n8 vc8) n8 (ndRow O8) rfl HOW8.out ⟨gb,0,none⟩ ((n2 - n)) cb (ndRow (O.drop n)) rfl (by rw [ndRow_length,HLL.out]) HC8.out (ndRow_one _) (by unfold maxLen;omega) (by omega) hB8 ?_;intro v9 w9 o9 g9 n9 q9;obtain ⟨m1,m2⟩:=HKS.out _ g9;have HA9:=hid (HFIN.out _ _ g9 o9 q9);have hv9:=own_sl o9;obtain ⟨a9,c9,rfl⟩:=hv9;clear o9 g9 n9 q9)
     refine (take_at HA9.out _).mono ?_
     rintro e w11 (⟨rfl,l11,a11⟩ | ⟨rfl,a11⟩)
     ·have HA11:=hid a11
      clear a11 HA9
      go_wp2_with fail
      refine (hE (p8+1) (by omega) _ _ _ _ _ HA11.out (by have:=HA11.out.pT;omega)).mono ?_
      rintro e w12 ⟨rfl,p12,b12,n12,l12a,l12b,l12c,a12⟩
      have HA12:=hid a12
      clear a12 HA11
      go_wp2_with fail
      refine (need_at HA12.out _).mono ?_
      rintro e w13 ⟨rfl,p13,b13,l13a,l13b,a13⟩
      have HA13:=hid a13
      clear a13 HA12
      go_wp2_with fail
      refine (put_at9 HA13.out ⟨16,0,0,t6,3⟩ HX6.out (by have:=HA13.out.pT;omega)).mono ?_
      rintro e w14 ⟨rfl,a14⟩
      have HA14:=hid a14
      clear a14 HA13
      go_wp2
      exact bodyPost_ret (results_none rfl _ _ _) rfl ⟨rfl,p13,b13,(n12+1),by omega,by omega,by omega,HA14.out⟩
     ·have HA11:=hid a11
      clear a11 HA9
      go_wp2_with fail
      refine (need_at HA11.out _).mono ?_
      rintro e w13 ⟨rfl,p13,b13,l13a,l13b,a13⟩
      have HA13:=hid a13
      clear a13 HA11
      go_wp2_with fail
      refine (put_at9 HA13.out ⟨16,0,0,t6,2⟩ HX6.out (by have:=HA13.out.pT;omega)).mono ?_
      rintro e w14 ⟨rfl,a14⟩
      have HA14:=hid a14
      clear a14 HA13
      go_wp2
      exact bodyPost_ret (results_none rfl _ _ _) rfl ⟨rfl,p13,b13,(n8+(n2 - n)+1),by omega,by omega,by omega,HA14.out⟩
    ·have hdn:O.drop n=[]:=List.drop_eq_nil_of_le (by rw [HOL.out];omega)
     have HDN:=hid hdn
     clear hdn
     have HLL:Hid ((O.drop n).length=n2 - n):=by show _=_;rw [List.length_drop,HOL.out]
     go_upto_region 6 with (at_builtin;refine wpList_append_own_at _ rfl (.tmp 21) (.tmp 27) 48 rfl w3.heap.size 81 i0 (.agg #[.int .i64 0,.int .i64 0,.int .i64 0,.string ⟨#[]⟩,.int .i64 0]) 5 48 Tryz.underlying48 HHI.out.1 HHI.out.2.1 HHI.out.2.2.1 HHI.out.2.2.2 rfl (by decide) (.slice (some ⟨w3.heap.size,0,none⟩) 0 0) 0 [] rfl HOA.out ⟨g,0,none⟩ (n2 - n) (cap - n) [] (by first | rfl | (simp [Act.eval];done) | (simp [Act.eval];omega)) (by simp;omega) (fun j u hu=>by simp at hu) (by first | exact ndRow_one _ | simp) (by unfold maxLen;omega) (by omega) (by simp) ?_;intro v4 w4 o4 g4 n4 q4;have HO4a:=hid o4;have HB4:=hid (HAL.out.grown g4 HAL.out.size (fun k e=>by simp [Value.ownBlock] at e;omega));have hv4:=own_some o4 (fun e=>by have:=n4.1 e;simp at this);obtain ⟨gb,cb,rfl⟩:=hv4;clear o4 g4 n4 q4)
     have HO4:Hid (w4.ownsRow w3.heap.size 81 5 (.slice (some ⟨gb,0,none⟩) (n2 - n) cb) (n2 - n) (ndRow (O.drop n))):=by show World.ownsRow _ _ _ _ _ _ _;rw [HDN.out];simpa [ndRow] using HO4a.out
     clear HO4a c5 HAL HDA HOA HOW hrow
     have HD4:=hid (HD3.out.next HB4.out)
     have HT4:=hid (HT3.out.next HB4.out)
     have d5:=HD4.out.cells.2.2.2.2
     have f5:=HD4.out.fz 5
     have HD5:=hid (HD4.out.setout (ov':=.slice (some ⟨g,0,none⟩) n cap) (O:=O.take n) (World.grownBy.refl _ _) (own_take (own_below HOW3.out HB4.out) HOL.out (by omega)) (by rw [List.length_take,HOL.out];omega) (fun x hx=>HOX.out x (List.mem_of_mem_take hx)))
     have HT5:Hid (Dt s ov0 w0 (.slice (some ⟨g,0,none⟩) n cap) (w4.setCell ⟨s.D,5,none⟩ (.slice (some ⟨g,0,none⟩) n cap))):=HT4.out.trans (Dt.setout (World.grownBy.refl _ _) (fun k hk=>.inl hk))
     have HR5:Hid ((w4.setCell ⟨s.D,5,none⟩ (.slice (some ⟨g,0,none⟩) n cap)).ownsRow w3.heap.size 81 5 (.slice (some ⟨gb,0,none⟩) (n2 - n) cb) (n2 - n) (ndRow (O.drop n))):=own_keepD HO4.out fun k cur e _=>Below.heap_setCell _ _ _ _ (fun e2=>by have:=(own_loD HO4.out k e).1;have:k=s.D:=e2;omega)
     go_upto_region 7 with fail
     obtain ⟨W5,hW5⟩:∃ W,w4.setCell ⟨s.D,5,none⟩ (.slice (some ⟨g,0,none⟩) n cap)=W:=⟨_,rfl⟩
     rw [hW5] at HD5 HT5 HR5 ⊢
     clear hW5 d5 f5 HD4 HT4 HO4 HB4
     have HA5:Hid (Ad s (.slice (some ⟨g,0,none⟩) n cap) W5 (p2+1) false n W5):=⟨_,HD5.out,Dt.refl _ _ _⟩
     clear HD5
     go_wp2_with fail
     refine (name_at9 HA5.out).mono ?_
     rintro e w6 ⟨t6,p6,b6,rfl,x6,l6a,l6b,_,a6⟩
     have HA6:=hid a6
     have HX6:=hid x6
     clear a6 HA5 x6
     go_wp2_with fail
     refine (need_at HA6.out _).mono ?_
     rintro e w7 ⟨rfl,p7,b7,l7a,l7b,a7⟩
     have HA7:=hid a7
     clear a7 HA6
     go_wp2_with fail
     refine (hE p7 (by omega) _ _ _ _ _ HA7.out (by have:=HA7.out.pT;omega)).mono ?_
     rintro e w8 ⟨rfl,p8,b8,n8,l8a,l8b,l8c,a8⟩
     have HR8:=hid (a8.row HR5.out hDw (fun k hk=>by simp [Value.ownBlock] at hk;omega))
     obtain ⟨ov8,hd8,ht8⟩:=a8
     have HD8:=hid hd8
     have HT8:=hid ht8
     have z8:=hd8.pT
     have hB8:=hd8.Bz
     obtain ⟨O8,hO8,hx8,how8,_⟩:=hd8.sl
     have HOL8:=hid hO8
     have HOX8:=hid hx8
     have HOW8:=hid how8
     obtain ⟨va8,vc8,rfl⟩:=own_sl how8
     clear hd8 ht8 hO8 hx8 how8 HA7 HR5
     have d8:=HD8.out.cells.2.2.2.2
     have HC8:=hid (HR8.out.cells (g:=gb) rfl)
     have HKS:Hid (∀ V:World,w8.grownBy V (Value.ownBlock (.slice va8 n8 vc8))→V.cell? ⟨s.D,5,none⟩=some (.slice va8 n8 vc8)∧V.frozen? ⟨s.D,5,none⟩=false):=fun V hg=>by
      have hk:=hg.block s.D HD8.out.lt (fun e=>HD8.out.ne e.symm)
      obtain ⟨q,hq⟩:=HD8.out.box
      exact ⟨cell_hp (hk.trans hq) 5,frozen_hp (hk.trans hq) 5⟩
     have HFIN:Hid (∀ (v':Value) (V:World),w8.grownBy V (Value.ownBlock (.slice va8 n8 vc8))→V.ownsRow s.B 81 5 v' (n8+(n2 - n)) (ndRow O8 ++ ndRow (O.drop n))→(v'.ownBlock=Value.ownBlock (.slice va8 n8 vc8)∨v'.ownBlock=some w8.heap.size)→Ad s ov0 w0 p8 b8 (n8+(n2 - n)) (V.setCell ⟨s.D,5,none⟩ v')):=fun v' V hg ho hr=>by
      refine ⟨v',HD8.out.setout (O:=O8 ++ (O.drop n)) hg (by rw [ndRow_append];exact ho) (by rw [List.length_append,HOL8.out,HLL.out]) ?_,(HT5.out.trans HT8.out).trans (Dt.setout hg fun k hk=>?_)⟩
      ·intro y hy
       rcases List.mem_append.1 hy with hy | hy
       ·exact HOX8.out y hy
       ·exact HOX.out y (List.mem_of_mem_drop hy)
      ·rcases hr with hr | hr
       ·exact .inl (by rw [← hr];exact hk)
       ·rw [hr] at hk
        injection hk with hk
        exact .inr (by omega)
     go_wp2_with (at_builtin;refine wpList_append_own_at _ rfl (.tmp 48) (.tmp 49) 48 rfl s.B 81 i0 (.agg #[.int .i64 0,.int .i64 0,.int .i64 0,.string ⟨#[]⟩,.int .i64 0]) 5 48 Tryz.underlying48 HHI.out.1 HHI.out.2.1 HHI.out.2.2.1 HHI.out.2.2.2 rfl (by decide) (.slice va8 n8 vc8) n8 (ndRow O8) rfl HOW8.out ⟨gb,0,none⟩ ((n2 - n)) cb (ndRow (O.drop n)) rfl (by rw [ndRow_length,HLL.out]) HC8.out (ndRow_one _) (by unfold maxLen;omega) (by omega) hB8 ?_;intro v9 w9 o9 g9 n9 q9;obtain ⟨m1,m2⟩:=HKS.out _ g9;have HA9:=hid (HFIN.out _ _ g9 o9 q9);have hv9:=own_sl o9;obtain ⟨a9,c9,rfl⟩:=hv9;clear o9 g9 n9 q9)
     refine (take_at HA9.out _).mono ?_
     rintro e w11 (⟨rfl,l11,a11⟩ | ⟨rfl,a11⟩)
     ·have HA11:=hid a11
      clear a11 HA9
      go_wp2_with fail
      refine (hE (p8+1) (by omega) _ _ _ _ _ HA11.out (by have:=HA11.out.pT;omega)).mono ?_
      rintro e w12 ⟨rfl,p12,b12,n12,l12a,l12b,l12c,a12⟩
      have HA12:=hid a12
      clear a12 HA11
      go_wp2_with fail
      refine (need_at HA12.out _).mono ?_
      rintro e w13 ⟨rfl,p13,b13,l13a,l13b,a13⟩
      have HA13:=hid a13
      clear a13 HA12
      go_wp2_with fail
      refine (put_at9 HA13.out ⟨16,0,0,t6,3⟩ HX6.out (by have:=HA13.out.pT;omega)).mono ?_
      rintro e w14 ⟨rfl,a14⟩
      have HA14:=hid a14
      clear a14 HA13
      go_wp2
      exact bodyPost_ret (results_none rfl _ _ _) rfl ⟨rfl,p13,b13,(n12+1),by omega,by omega,by omega,HA14.out⟩
     ·have HA11:=hid a11
      clear a11 HA9
      go_wp2_with fail
      refine (need_at HA11.out _).mono ?_
      rintro e w13 ⟨rfl,p13,b13,l13a,l13b,a13⟩
      have HA13:=hid a13
      clear a13 HA11
      go_wp2_with fail
      refine (put_at9 HA13.out ⟨16,0,0,t6,2⟩ HX6.out (by have:=HA13.out.pT;omega)).mono ?_
      rintro e w14 ⟨rfl,a14⟩
      have HA14:=hid a14
      clear a14 HA13
      go_wp2
      exact bodyPost_ret (results_none rfl _ _ _) rfl ⟨rfl,p13,b13,(n8+(n2 - n)+1),by omega,by omega,by omega,HA14.out⟩
  ·have HA3:=hid a3
   clear a3 HA2
   go_wp2
   go_loopw [6] (fun c6 wr=>∃ m q k:Nat,∃ bb:Bool,c6=.int .i64 m∧m≤q+1∧p≤q∧n≤k∧k+2 * p≤n+2 * q∧Ad s ov0 w0 q bb k wr) (fun _ wr=>s.T - deskP s wr)
   case atStart=>exact ⟨1,p2,n2,_,rfl,by omega,by omega,by omega,by omega,HA3.out⟩
   case round =>
    obtain ⟨m,q,k,bb,rfl,lm,lq,lk,lkq,ad⟩:=hrel
    have HAr:=hid ad
    have HDP:=hid ad.deskP
    have hqT:=ad.pT.1
    clear ad HA3
    go_wp2_with fail
    refine (take_at HAr.out _).mono ?_
    rintro e w4 (⟨rfl,l4,a4⟩ | ⟨rfl,a4⟩)
    ·have HA4:=hid a4
     clear a4 HAr
     go_wp2_with fail
     refine (hE (q+1) (by omega) _ _ _ _ _ HA4.out (by have:=HA4.out.pT;omega)).mono ?_
     rintro e w5 ⟨rfl,p5,b5,n5,l5a,l5b,l5c,a5⟩
     have HA5:=hid a5
     clear a5 HA4
     go_wp2
     go_roundw
     case rel=>exact ⟨m+1,p5,n5,b5,by go_num,by omega,by omega,by omega,by omega,HA5.out⟩
     case measure=>rw [HA5.out.deskP,HDP.out];have:=HA5.out.pT;omega
    ·have HA4:=hid a4
     clear a4 HAr
     go_wp2_with fail
     refine (need_at HA4.out _).mono ?_
     rintro e w5 ⟨rfl,p5,b5,l5a,l5b,a5⟩
     have HA5:=hid a5
     clear a5 HA4
     go_wp2_with fail
     refine (put_at9 HA5.out ⟨8,0,0,⟨#[]⟩,(m:Int)⟩ (by show (⟨#[]⟩:ByteArray).size≤1000;decide) (by have:=HA5.out.pT;omega)).mono ?_
     rintro e w6 ⟨rfl,a6⟩
     have HA6:=hid a6
     clear a6 HA5
     go_wp2
     go_end0
     exact ⟨rfl,p5,b5,(k+1),by omega,by omega,by omega,HA6.out⟩
end Go.Proofs.YtabbahpalemlhaaGreatDoor
