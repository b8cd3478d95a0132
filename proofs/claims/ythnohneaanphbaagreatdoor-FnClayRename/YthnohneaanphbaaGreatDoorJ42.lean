import Derived.Deep.DeepCutAuto
import Derived.Test.YthnohneaanphbaaGreatDoorJ39
import Derived.Test.YthnohneaanphbaaGreatDoorJ41
import Derived.Test.YthnohneaanphbaaGreatDoorJ33
import Derived.Test.YthnohneaanphbaaGreatDoorJ37
namespace Go.Proofs.YthnohneaanphbaaGreatDoor
open Go.RowKit
set_option maxRecDepth 20000
set_option maxHeartbeats 16000000 in
theorem record_at9 {s:Ds} {ov0:Value} {w0:World} {p n:Nat} {bad:Bool} {w:World} (hE:∀ q,p≤q→EOk9 s q) (h:Ad s ov0 w0 p bad n w) (hl:n+2 * s.T≤400000+2 * p) :
  Calls Tryz.prog 131 #[.pointer (some ⟨s.D,0,none⟩)] w (DE 1 s ov0 w0 p n):=by
 have HA0:=hid h
 have hT:=h.pT.2
 clear h
 go_enter Tryz.func131,Tryz.ntmps131
 go_wp2
 go_loopw [2] (fun c2 wr=>∃ m q k:Nat,∃ bb:Bool,c2=.int .i64 m∧p≤q∧n≤k∧k+2 * p≤n+2 * q∧m≤q - p∧Ad s ov0 w0 q bb k wr) (fun _ wr=>s.T - deskP s wr)
 case atStart=>exact ⟨0,p,n,_,rfl,by omega,by omega,by omega,by omega,HA0.out⟩
 case round =>
  obtain ⟨m,q,k,bb,rfl,lq,lk,lkq,lm,ad⟩:=hrel
  have HAr:=hid ad
  have HDP:=hid ad.deskP
  have hqT:=ad.pT.1
  clear ad HA0
  obtain ⟨_,_,c3,_⟩:=HAr.out.cells
  cases bb
  ·rcases Nat.eq_zero_or_pos m with rfl | hm1
   ·go_wp2_with fail
    refine (is_at HAr.out _).mono ?_
    rintro e w1 (⟨rfl,l1,a1⟩ | ⟨rfl,a1⟩)
    ·have HA1:=hid a1
     clear a1 HAr
     go_wp2_with fail
     refine (need_at HA1.out _).mono ?_
     rintro e w2 ⟨rfl,p2,b2,l2a,l2b,a2⟩
     have HA2:=hid a2
     clear a2 HA1
     go_wp2_with fail
     refine (put_at9 HA2.out ⟨9,0,0,⟨#[]⟩,((0:Nat):Int)⟩ (by show (⟨#[]⟩:ByteArray).size≤1000;decide) (by have:=HA2.out.pT;omega)).mono ?_
     rintro e w3 ⟨rfl,a3⟩
     have HA3:=hid a3
     clear a3 HA2
     go_wp2
     go_end0
     exact ⟨rfl,p2,b2,(k+1),by omega,by omega,by omega,HA3.out⟩
    ·have HA1:=hid a1
     clear a1 HAr
     go_wp2_with fail
     refine (tok_at HA1.out).mono ?_
     rintro e w4 ⟨kk,nn,qq,tt,rfl,hx,hk,a4⟩
     have HK:=hid hk
     have HX:=hid hx
     obtain ⟨ovb,kb,ab,bx⟩:=a4.box (.cells #[.int .i64 kk,.string tt,.int .i64 nn,.int .i64 qq] 130)
     have HKB:=hid kb
     have HAb:=hid ab
     have HBF:=hid bx
     clear hk hx a4 HA1 kb ab bx
     go_upto_region 3 with fail
     obtain ⟨xb,hxb⟩:∃ g,w4.heap.size=g:=⟨_,rfl⟩
     obtain ⟨Wb,hWb⟩:∃ W,w4.alloc (.cells #[.int .i64 kk,.string tt,.int .i64 nn,.int .i64 qq] 130)=W:=⟨_,rfl⟩
     rw [hWb] at HKB HAb HBF ⊢
     rw [hxb] at HBF ⊢
     clear hxb hWb
     obtain ⟨⟨x0,x1,x2,x3⟩,_,_,_,_⟩:=tbox (HBF.out _ _ _ _ HAb.out)
     have hkk:(kk=1∨kk=4)∨(kk≠1∧kk≠4):=by omega
     rcases hkk with h14 | ⟨h1,h4⟩
     ·have hp:=HK.out (by rcases h14 with h | h <;> rw [h] <;> decide)
      obtain ⟨_,d2,_,f2⟩:=HAb.out.cells
      have HAi:=hid (HAb.out.inc hp)
      have HBi:=hid (HBF.out _ _ _ _ HAi.out)
      rcases h14 with rfl | rfl
      ·go_wp2_with fail
       refine (need_at HAi.out _).mono ?_
       rintro e w5 ⟨rfl,p5,b5,l5a,l5b,a5⟩
       have HA5:=hid a5
       clear a5 HAi HAb d2 f2 x0 x1 x2 x3
       go_wp2_with fail
       refine (hE p5 (by omega) _ _ _ _ _ HA5.out (by have:=HA5.out.pT;omega)).mono ?_
       rintro e w6 ⟨rfl,p6,b6,n6,l6a,l6b,l6c,a6⟩
       have HA6:=hid a6
       clear a6 HA5
       obtain ⟨⟨_,x1,_,_⟩,_,_,_,_⟩:=tbox (HBF.out _ _ _ _ HA6.out)
       go_wp2_with fail
       refine (put_at9 HA6.out ⟨17,0,0,tt,1⟩ (HX.out) (by have:=HA6.out.pT;omega)).mono ?_
       rintro e w7 ⟨rfl,a7⟩
       have HA7:=hid a7
       clear a7 HA6
       clear x1
       go_wp2_with fail
       refine (take_at HA7.out _).mono ?_
       rintro e w8 (⟨rfl,l8,a8⟩ | ⟨rfl,a8⟩)
       ·have HA8:=hid a8
        clear a8 HA7
        have HAc:=hid (HA8.out.comp HKB.out)
        go_wp2
        go_roundw
        case rel=>exact ⟨0+1,(p6+1),(n6+1),false,by go_num,by omega,by omega,by omega,by omega,HAc.out⟩
        case measure=>rw [HAc.out.deskP,HDP.out];have:=HAc.out.pT;omega
       ·have HA8:=hid a8
        clear a8 HA7
        have HAc:=hid (HA8.out.comp HKB.out)
        go_wp2_with fail
        refine (need_at HAc.out _).mono ?_
        rintro e w9 ⟨rfl,p9,b9,l9a,l9b,a9⟩
        have HA9:=hid a9
        clear a9 HAc
        go_wp2_with fail
        refine (put_at9 HA9.out ⟨9,0,0,⟨#[]⟩,(((0+1):Nat):Int)⟩ (by show (⟨#[]⟩:ByteArray).size≤1000;decide) (by have:=HA9.out.pT;omega)).mono ?_
        rintro e w10 ⟨rfl,a10⟩
        have HA10:=hid a10
        clear a10 HA9
        go_wp2
        go_end0
        exact ⟨rfl,p9,b9,((n6+1)+1),by omega,by omega,by omega,HA10.out⟩
      ·go_wp2_with fail
       refine (need_at HAi.out _).mono ?_
       rintro e w11 ⟨rfl,p11,b11,l11a,l11b,a11⟩
       have HA11:=hid a11
       clear a11 HAi HAb d2 f2 x0 x1 x2 x3
       go_wp2_with fail
       refine (hE p11 (by omega) _ _ _ _ _ HA11.out (by have:=HA11.out.pT;omega)).mono ?_
       rintro e w12 ⟨rfl,p12,b12,n12,l12a,l12b,l12c,a12⟩
       have HA12:=hid a12
       clear a12 HA11
       obtain ⟨⟨_,x1,_,_⟩,_,_,_,_⟩:=tbox (HBF.out _ _ _ _ HA12.out)
       go_wp2_with fail
       refine (put_at9 HA12.out ⟨17,0,0,tt,1⟩ (HX.out) (by have:=HA12.out.pT;omega)).mono ?_
       rintro e w13 ⟨rfl,a13⟩
       have HA13:=hid a13
       clear a13 HA12
       clear x1
       go_wp2_with fail
       refine (take_at HA13.out _).mono ?_
       rintro e w14 (⟨rfl,l14,a14⟩ | ⟨rfl,a14⟩)
       ·have HA14:=hid a14
        clear a14 HA13
        have HAc:=hid (HA14.out.comp HKB.out)
        go_wp2
        go_roundw
        case rel=>exact ⟨0+1,(p12+1),(n12+1),false,by go_num,by omega,by omega,by omega,by omega,HAc.out⟩
        case measure=>rw [HAc.out.deskP,HDP.out];have:=HAc.out.pT;omega
       ·have HA14:=hid a14
        clear a14 HA13
        have HAc:=hid (HA14.out.comp HKB.out)
        go_wp2_with fail
        refine (need_at HAc.out _).mono ?_
        rintro e w15 ⟨rfl,p15,b15,l15a,l15b,a15⟩
        have HA15:=hid a15
        clear a15 HAc
        go_wp2_with fail
        refine (put_at9 HA15.out ⟨9,0,0,⟨#[]⟩,(((0+1):Nat):Int)⟩ (by show (⟨#[]⟩:ByteArray).size≤1000;decide) (by have:=HA15.out.pT;omega)).mono ?_
        rintro e w16 ⟨rfl,a16⟩
        have HA16:=hid a16
        clear a16 HA15
        go_wp2
        go_end0
        exact ⟨rfl,p15,b15,((n12+1)+1),by omega,by omega,by omega,HA16.out⟩
     ·have e1:(kk != 1)=true:=by simpa using h1
      have e4:(kk != 4)=true:=by simpa using h4
      go_wp2_with fail
      refine (stop_at HAb.out).mono ?_
      rintro e w17 ⟨rfl,a17⟩
      have HA17:=hid a17
      clear a17 HAb
      go_wp2
      exact bodyPost_ret (results_none rfl _ _ _) rfl ⟨rfl,q,true,k,by omega,by omega,by omega,HA17.out.comp HKB.out⟩
   ·have hm2:(0:Int) < (m:Int):=by omega
    go_wp2_with fail
    refine (tok_at HAr.out).mono ?_
    rintro e w18 ⟨kk,nn,qq,tt,rfl,hx,hk,a18⟩
    have HK:=hid hk
    have HX:=hid hx
    obtain ⟨ovb,kb,ab,bx⟩:=a18.box (.cells #[.int .i64 kk,.string tt,.int .i64 nn,.int .i64 qq] 130)
    have HKB:=hid kb
    have HAb:=hid ab
    have HBF:=hid bx
    clear hk hx a18 HAr kb ab bx
    go_upto_region 3 with fail
    obtain ⟨xb,hxb⟩:∃ g,w18.heap.size=g:=⟨_,rfl⟩
    obtain ⟨Wb,hWb⟩:∃ W,w18.alloc (.cells #[.int .i64 kk,.string tt,.int .i64 nn,.int .i64 qq] 130)=W:=⟨_,rfl⟩
    rw [hWb] at HKB HAb HBF ⊢
    rw [hxb] at HBF ⊢
    clear hxb hWb
    obtain ⟨⟨x0,x1,x2,x3⟩,_,_,_,_⟩:=tbox (HBF.out _ _ _ _ HAb.out)
    have hkk:(kk=1∨kk=4)∨(kk≠1∧kk≠4):=by omega
    rcases hkk with h14 | ⟨h1,h4⟩
    ·have hp:=HK.out (by rcases h14 with h | h <;> rw [h] <;> decide)
     obtain ⟨_,d2,_,f2⟩:=HAb.out.cells
     have HAi:=hid (HAb.out.inc hp)
     have HBi:=hid (HBF.out _ _ _ _ HAi.out)
     rcases h14 with rfl | rfl
     ·go_wp2_with fail
      refine (need_at HAi.out _).mono ?_
      rintro e w19 ⟨rfl,p19,b19,l19a,l19b,a19⟩
      have HA19:=hid a19
      clear a19 HAi HAb d2 f2 x0 x1 x2 x3
      go_wp2_with fail
      refine (hE p19 (by omega) _ _ _ _ _ HA19.out (by have:=HA19.out.pT;omega)).mono ?_
      rintro e w20 ⟨rfl,p20,b20,n20,l20a,l20b,l20c,a20⟩
      have HA20:=hid a20
      clear a20 HA19
      obtain ⟨⟨_,x1,_,_⟩,_,_,_,_⟩:=tbox (HBF.out _ _ _ _ HA20.out)
      go_wp2_with fail
      refine (put_at9 HA20.out ⟨17,0,0,tt,1⟩ (HX.out) (by have:=HA20.out.pT;omega)).mono ?_
      rintro e w21 ⟨rfl,a21⟩
      have HA21:=hid a21
      clear a21 HA20
      clear x1
      go_wp2_with fail
      refine (take_at HA21.out _).mono ?_
      rintro e w22 (⟨rfl,l22,a22⟩ | ⟨rfl,a22⟩)
      ·have HA22:=hid a22
       clear a22 HA21
       have HAc:=hid (HA22.out.comp HKB.out)
       go_wp2
       go_roundw
       case rel=>exact ⟨m+1,(p20+1),(n20+1),false,by go_num,by omega,by omega,by omega,by omega,HAc.out⟩
       case measure=>rw [HAc.out.deskP,HDP.out];have:=HAc.out.pT;omega
      ·have HA22:=hid a22
       clear a22 HA21
       have HAc:=hid (HA22.out.comp HKB.out)
       go_wp2_with fail
       refine (need_at HAc.out _).mono ?_
       rintro e w23 ⟨rfl,p23,b23,l23a,l23b,a23⟩
       have HA23:=hid a23
       clear a23 HAc
       go_wp2_with fail
       refine (put_at9 HA23.out ⟨9,0,0,⟨#[]⟩,(((m+1):Nat):Int)⟩ (by show (⟨#[]⟩:ByteArray).size≤1000;decide) (by have:=HA23.out.pT;omega)).mono ?_
       rintro e w24 ⟨rfl,a24⟩
       have HA24:=hid a24
       clear a24 HA23
       go_wp2
       go_end0
       exact ⟨rfl,p23,b23,((n20+1)+1),by omega,by omega,by omega,HA24.out⟩
     ·go_wp2_with fail
      refine (need_at HAi.out _).mono ?_
      rintro e w25 ⟨rfl,p25,b25,l25a,l25b,a25⟩
      have HA25:=hid a25
      clear a25 HAi HAb d2 f2 x0 x1 x2 x3
      go_wp2_with fail
      refine (hE p25 (by omega) _ _ _ _ _ HA25.out (by have:=HA25.out.pT;omega)).mono ?_
      rintro e w26 ⟨rfl,p26,b26,n26,l26a,l26b,l26c,a26⟩
      have HA26:=hid a26
      clear a26 HA25
      obtain ⟨⟨_,x1,_,_⟩,_,_,_,_⟩:=tbox (HBF.out _ _ _ _ HA26.out)
      go_wp2_with fail
      refine (put_at9 HA26.out ⟨17,0,0,tt,1⟩ (HX.out) (by have:=HA26.out.pT;omega)).mono ?_
      rintro e w27 ⟨rfl,a27⟩
      have HA27:=hid a27
      clear a27 HA26
      clear x1
      go_wp2_with fail
      refine (take_at HA27.out _).mono ?_
      rintro e w28 (⟨rfl,l28,a28⟩ | ⟨rfl,a28⟩)
      ·have HA28:=hid a28
       clear a28 HA27
       have HAc:=hid (HA28.out.comp HKB.out)
       go_wp2
       go_roundw
       case rel=>exact ⟨m+1,(p26+1),(n26+1),false,by go_num,by omega,by omega,by omega,by omega,HAc.out⟩
       case measure=>rw [HAc.out.deskP,HDP.out];have:=HAc.out.pT;omega
      ·have HA28:=hid a28
       clear a28 HA27
       have HAc:=hid (HA28.out.comp HKB.out)
       go_wp2_with fail
       refine (need_at HAc.out _).mono ?_
       rintro e w29 ⟨rfl,p29,b29,l29a,l29b,a29⟩
       have HA29:=hid a29
       clear a29 HAc
       go_wp2_with fail
       refine (put_at9 HA29.out ⟨9,0,0,⟨#[]⟩,(((m+1):Nat):Int)⟩ (by show (⟨#[]⟩:ByteArray).size≤1000;decide) (by have:=HA29.out.pT;omega)).mono ?_
       rintro e w30 ⟨rfl,a30⟩
       have HA30:=hid a30
       clear a30 HA29
       go_wp2
       go_end0
       exact ⟨rfl,p29,b29,((n26+1)+1),by omega,by omega,by omega,HA30.out⟩
    ·have e1:(kk != 1)=true:=by simpa using h1
     have e4:(kk != 4)=true:=by simpa using h4
     go_wp2_with fail
     refine (stop_at HAb.out).mono ?_
     rintro e w31 ⟨rfl,a31⟩
     have HA31:=hid a31
     clear a31 HAb
     go_wp2
     exact bodyPost_ret (results_none rfl _ _ _) rfl ⟨rfl,q,true,k,by omega,by omega,by omega,HA31.out.comp HKB.out⟩
  ·skip
   go_wp2_with fail
   refine (need_at HAr.out _).mono ?_
   rintro e w32 ⟨rfl,p32,b32,l32a,l32b,a32⟩
   have HA32:=hid a32
   clear a32 HAr
   go_wp2_with fail
   refine (put_at9 HA32.out ⟨9,0,0,⟨#[]⟩,((m:Nat):Int)⟩ (by show (⟨#[]⟩:ByteArray).size≤1000;decide) (by have:=HA32.out.pT;omega)).mono ?_
   rintro e w33 ⟨rfl,a33⟩
   have HA33:=hid a33
   clear a33 HA32
   go_wp2
   go_end0
   exact ⟨rfl,p32,b32,(k+1),by omega,by omega,by omega,HA33.out⟩
end Go.Proofs.YthnohneaanphbaaGreatDoor
namespace Go.Proofs.YthnohneaanphbaaGreatDoor
open Go.RowKit Go.Maps Go.WideMaps
set_option maxRecDepth 20000
set_option maxHeartbeats 4000000 in
theorem bound_any (b N cap:Nat) (nd:Nat→Nd) (w:World) (hN:N≤1048576) (hb:b < w.heap.size) (hn:NodesAt w b N nd) (hx:∀ i,i < N→(nd i).text.size≤maxLen) (hE:BEnv w) :
  Calls Tryz.prog 16 #[.agg #[.slice (some ⟨b,0,none⟩) N cap]] w fun e w'=>BoundEnd nd N w w' e:=by
 have HN:=hid hn
 have HX:=hid hx
 have HE:=hid hE
 clear hn hx hE
 have HA:Hid (Below w.heap.size w ((w.alloc (.cells #[.slice (some ⟨b,0,none⟩) N cap] 25)).alloc (.cells #[.int .i64 0,.int .i64 0] 37))):=((Below.refl _ _).alloc (Nat.le_refl _) _).alloc (by simp) _
 have HR0:Hid ((World.heap ((w.alloc (.cells #[.slice (some ⟨b,0,none⟩) N cap] 25)).alloc (.cells #[.int .i64 0,.int .i64 0] 37)))[w.heap.size+1]?=some (.cells #[.int .i64 0,.int .i64 0] 37 (0,0))∧((w.alloc (.cells #[.slice (some ⟨b,0,none⟩) N cap] 25)).alloc (.cells #[.int .i64 0,.int .i64 0] 37)).cell? ⟨w.heap.size,0,none⟩=some (.slice (some ⟨b,0,none⟩) N cap)):=by
  refine ⟨?_,?_⟩
  ·have:=heap_alloc_new (w.alloc (.cells #[.slice (some ⟨b,0,none⟩) N cap] 25)) (.cells #[.int .i64 0,.int .i64 0] 37)
   rw [World.size_alloc] at this
   exact this
  ·rw [cell_alloc_lt _ _ _ _ (by simp)]
   exact cell_new_row w _ _ 0
 go_enter Tryz.func16,Tryz.ntmps16
 have HSZ:Hid (((w.alloc (.cells #[.slice (some ⟨b,0,none⟩) N cap] 25)).alloc (.cells #[.int .i64 0,.int .i64 0] 37)).heap.size=w.heap.size+2):=by show _=_;simp
 go_wp2_with fail
 refine (implValid_all b N cap nd _ hN (by rw [HSZ.out];omega) (HN.out.below HA.out hb) HX.out).mono ?_
 rintro e w1 ⟨hs1,hb1⟩
 have HB1:=hid (HA.out.trans (hb1.mono (by rw [HSZ.out];omega)))
 have hw1:w.heap.size+2≤w1.heap.size:=by have:=hb1.size;rw [HSZ.out] at this;exact this
 have hF1:w1.heap[w.heap.size+1]?=some (.cells #[.int .i64 0,.int .i64 0] 37 (0,0)):=(hb1.block _ (by rw [HSZ.out];omega)).trans HR0.out.1
 have t1:w1.cell? ⟨w.heap.size,0,none⟩=some (.slice (some ⟨b,0,none⟩) N cap):=(hb1.cell (p:=⟨w.heap.size,0,none⟩) (by rw [HSZ.out];show w.heap.size < w.heap.size+2;omega)).trans HR0.out.2
 clear hb1
 obtain ⟨r0,r1,r2,r3⟩:w1.cell? ⟨w.heap.size+1,0,none⟩=some (.int .i64 0)∧w1.cell? ⟨w.heap.size+1,1,none⟩=some (.int .i64 0)∧w1.frozen? ⟨w.heap.size+1,0,none⟩=false∧w1.frozen? ⟨w.heap.size+1,1,none⟩=false:=by
  refine ⟨?_,?_,?_,?_⟩
  ·unfold World.cell?;rw [hF1];rfl
  ·unfold World.cell?;rw [hF1];rfl
  ·unfold World.frozen?;rw [hF1];simp
  ·unfold World.frozen?;rw [hF1];simp
 rcases hs1.get with ⟨rfl,hV⟩ | ⟨rfl,hV⟩
 ·have HV:=hid hV
  obtain ⟨hV1,hV2,hV3,o,xx,hV4,hV5⟩:=hV
  have HKF:=hid hV4
  have HFT:=hid hV5
  clear hV4 hV5 hs1
  obtain ⟨i0,hi,hz0,hz1,hz2⟩:=info_parts info_int
  have HHI:=hid (And.intro hi (And.intro hz0 (And.intro hz1 hz2)))
  clear hi hz0 hz1
  have hmk:=run_make_row' (P:=Tryz.prog) 31 3 (.int .i64 0) 8 Tryz.underlying31 info_int rfl .i64 .i64 N (by omega) (by omega)
  have HKP:Hid (∀ W,Below w.heap.size w W→Calls Tryz.prog 35 #[.slice (some ⟨b,0,none⟩) N cap] W fun e w'=>∃ gk,e=.returned (.slice (some ⟨gk,0,none⟩) N N)∧W.heap.size≤gk∧KG w' gk N o∧(∀ i,i < N→∀ g n c,w'.cell? ⟨gk,i,none⟩=some (.slice (some ⟨g,0,none⟩) n c)→W.heap.size≤g)∧Below W.heap.size W w'):=fun W hW=>kidPlaces_any b N cap nd o _ W (by omega) (Nat.lt_of_lt_of_le hb hW.size) (HN.out.below hW hb) HKF.out
  have e1:∀ O,(w1.alloc O).cell? ⟨w.heap.size,0,none⟩=some (.slice (some ⟨b,0,none⟩) N cap):=fun O=>(cell_alloc_lt w1 O _ _ (by omega)).trans t1
  have e2:∀ O O',((w1.alloc O).alloc O').cell? ⟨w.heap.size,0,none⟩=some (.slice (some ⟨b,0,none⟩) N cap):=fun O O'=>(cell_alloc_lt _ O' _ _ (by simp;omega)).trans (e1 O)
  go_upto_region 3 with fail
  have HK1:Hid (∀ W,Below w1.heap.size w1 W→W.cell? ⟨w.heap.size,0,none⟩=some (.slice (some ⟨b,0,none⟩) N cap)):=fun W h=>(h.cell (p:=⟨w.heap.size,0,none⟩) (by show w.heap.size < w1.heap.size;omega)).trans t1
  go_cut [4] (fun v wx=>BoxR nd o N b cap w1 v wx)
  case first =>
   go_region_held3 (fun W=>W.cell? ⟨w.heap.size,0,none⟩=some (.slice (some ⟨b,0,none⟩) N cap)) (first | (rw [cell_set_ne,cell_set_ne,cell_set_ne,cell_set_ne,cell_set_ne];(first | exact f1 | exact f2);all_goals omega) | (refine (cell_alloc_lt _ _ _ _ ?_).trans ?_;(simp [World.setCell];omega);rw [cell_set_ne,cell_set_ne,cell_set_ne,cell_set_ne,cell_set_ne];(exact f1);all_goals omega) | go_keep) (first
    | (go_at_call 35;refine (HKP.out _ ?_).mono ?_;(first | exact HB1.out.drew | exact (HB1.out.alloc HB1.out.size _).drew | exact ((HB1.out.alloc HB1.out.size _).alloc (by simp;omega) _).drew);rintro e w2 ⟨gk,rfl,hgk,hkg,hkb,hb2⟩;have f1:w2.cell? ⟨w.heap.size,0,none⟩=some (.slice (some ⟨b,0,none⟩) N cap):=(by first | exact pre_t t1 hw1 hb2 | exact pre_t1 t1 hw1 hb2 | exact pre_t2 t1 hw1 hb2);have f2:(w2.alloc (.cells (madeCells #[.int .i64 0] N) 3)).cell? ⟨w.heap.size,0,none⟩=some (.slice (some ⟨b,0,none⟩) N cap):=(cell_alloc_lt w2 _ _ _ (World.block_lt_of_cell? w2 _ f1)).trans f1;have HCA:=hid hb2;have HKGX:=hid hkg;have HKBX:=hid hkb;(first | (have hq:=pre_b (w1:=w1) hb2;obtain ⟨hlw,z0,z1,z2,z3,z4,z5,z6,z7,z8,z9⟩:=hq;obtain ⟨zz0,zz1,zz2,zz3,zz4,zz5,zz6,zz7,zz8,zz9⟩:=five_more ⟨z0,z1,z2,z3,z4,z5,z6,z7,z8,z9⟩ (.cells (madeCells #[.int .i64 0] N) 3)) | (have hq:=pre_bm (w1:=w1) hb2;obtain ⟨hlw,z0,z1,z2,z3,z4,z5,z6,z7,z8,z9⟩:=hq) | (have hq:=pre_mb (w1:=w1) hb2;obtain ⟨hlw,z0,z1,z2,z3,z4,z5,z6,z7,z8,z9⟩:=hq) | skip);clear hkg hkb hb2)
    | fail)
   ·go_wp2_with fail
    go_meet
    case rel=>exact end1 hV1 HCA.out hgk HKGX.out HKBX.out
   ·go_wp2_with fail
    go_meet
    case rel=>exact end2 hV1 HCA.out hgk HKGX.out HKBX.out
   ·go_wp2_with fail
    go_meet
    case rel=>exact end3 hV1 HCA.out hgk HKGX.out HKBX.out
   ·go_wp2_with fail
    go_meet
    case rel=>exact end4 hV1 HCA.out hgk HKGX.out HKBX.out
   ·go_wp2_with fail
    go_meet
    case rel=>exact end5 hV1 HCA.out hgk HKGX.out HKBX.out
   ·go_wp2_with fail
    go_meet
    case rel=>exact end6 hV1 HCA.out hgk HKGX.out HKBX.out
  case rest =>
   obtain ⟨bb,gm,gk,rfl,hbb,hgm,hne,hkb,hkm,hat,hstb,hbw⟩:=hcut
   clear e1 e2 hmk HKP
   have HAT:=hid hat
   have HBW:=hid hbw
   obtain ⟨x,hxe⟩:∃ x,x=Bx.mk bb gm b N cap gk nd o:=⟨_,rfl⟩
   have HOK:Hid (x.Ok):=by rw [hxe];exact box_ok hne hV2 HX.out HKF.out (fun i hi=>(HFT.out i hi).2) (by omega) (by omega) hkb hkm
   have HTR:Hid (Stb x.S wc x.Tree):=by
    rw [hxe]
    refine fun W hW=>⟨?_,hstb W hW⟩
    have h1:Below w.heap.size w W:=(HB1.out.trans (HBW.out.mono HB1.out.size)).trans (hW.below (Nat.le_trans HB1.out.size HBW.out.size) (by rintro k (rfl | rfl) <;> omega))
    exact HN.out.below h1 hb
   have HAX:Hid (x.At wc (fun _=>0) 0 0):=by rw [hxe];exact HAT.out
   have HXE:=hid hxe
   have HSB:Hid (∀ W,Sv x.S wc W→Below w1.heap.size w1 W):=fun W hW=>HBW.out.trans (hW.below HBW.out.size (by rw [HXE.out];rintro k (rfl | rfl) <;> omega))
   obtain ⟨-,-,f2,-,-,-,-⟩:=hat.five
   clear hat hstb hbw hxe r0 r1 r2 r3
   go_wp2
   clear f2
   go_loopw [23] (fun i wr=>∃ j:Nat,j≤N∧i=.int .i64 j∧x.At wr (fun i=>if i < j then -1 else 0) 0 0∧Sv x.S wc wr) (fun i _=>N - (intOf i).toNat)
   case atStart=>exact ⟨0,Nat.zero_le _,rfl,HAX.out,Sv.refl _ _⟩
   case round =>
    obtain ⟨j,hj,rfl,hatw,hsvw⟩:=hrel
    have HATW:=hid hatw
    have HSVW:=hid hsvw
    have f2:wr.cell? ⟨bb,2,none⟩=some (.slice (some ⟨gm,0,none⟩) N N):=by have:=hatw.five.2.2.1;rw [HXE.out] at this;exact this
    clear hatw hsvw
    by_cases hlt:j < N
    ·obtain ⟨b0,b1⟩:wr.cell? ⟨gm,j,none⟩=some (.int .i64 0)∧wr.frozen? ⟨gm,j,none⟩=false:=by
      have:=HATW.out.2.cell j (by rw [HXE.out];exact hlt)
      rw [HXE.out,if_neg (Nat.lt_irrefl _)] at this
      exact this
     have HNX:Hid (x.At (wr.setCell ⟨gm,j,none⟩ (.int .i64 (-1))) (fun i=>if i < j+1 then -1 else 0) 0 0∧Sv x.S wc (wr.setCell ⟨gm,j,none⟩ (.int .i64 (-1)))):=by
      have e:x.gb=gm:=by rw [HXE.out]
      have h1:=at_set HOK.out.ne HATW.out (by rw [HXE.out];exact hlt)
      rw [e] at h1
      exact ⟨h1,HSVW.out.setCell (p:=⟨gm,j,none⟩) (.inl (.inr e.symm)) _⟩
     go_wp2
     go_roundw
     case rel=>exact ⟨j+1,by omega,by go_num,HNX.out.1,HNX.out.2⟩
     case measure=>simp [intOf];omega
    ·obtain rfl:j=N:=by omega
     have tw:wr.cell? ⟨w.heap.size,0,none⟩=some (.slice (some ⟨b,0,none⟩) j cap):=((HSB.out _ HSVW.out).cell (p:=⟨w.heap.size,0,none⟩) (by show w.heap.size < w1.heap.size;omega)).trans t1
     have hwrs:=HSVW.out.size
     have hws:=HBW.out.size
     clear f2
     have HM:Hid (x.N=j∧x.nd=nd∧x.o=o∧x.bb=bb∧x.gb=gm):=by rw [HXE.out];exact ⟨rfl,rfl,rfl,rfl,rfl⟩
     have HENV:Hid (∀ W,Below w1.heap.size w1 W→BEnv W):=fun W hW=>HE.out.below (HB1.out.trans (hW.mono HB1.out.size)) HE.out.pos
     have HWK:Hid (∀ a bn W,x.At W bn 0 0→Stb x.S W x.Tree→Kn x.S W (.pointer a) builtEnv→Calls Tryz.prog 36 #[.pointer (some ⟨bb,0,none⟩),.int .i64 ((j:Int) - 1),.pointer a] W fun e w'=>e=.returned (.tuple #[])∧x.Ends W w' bn (0,0) (treeE nd o j)):=fun a bn W h1 h2 h3=>by
      have:=walk_top x HOK.out (by rw [HM.out.1];exact hV1) (by rw [HM.out.2.1,HM.out.1];exact hV3) ((j:Int) - 1) (by rw [HM.out.1];omega) a bn W h1 h2 h3
      rw [HM.out.2.2.2.1,HM.out.2.1,HM.out.2.2.1,HM.out.1] at this
      exact this
     have HSW:=hid (HSB.out _ HSVW.out)
     have hwrap:IntKind.i64.wrap ((j:Int) - 1)=(j:Int) - 1:=by rw [IntKind.wrap_i64];omega
     go_upto_region 9 with fail
     go_region_held3 (fun W=>W.cell? ⟨w.heap.size,0,none⟩=some (.slice (some ⟨b,0,none⟩) j cap)) (first | exact tw4 | exact tw3 | go_keep) (first
      | (go_at_call 37;refine (builtScope_any x.S (wr.drew) HATW.out.lt (HENV.out _ HSW.out.drew)).mono ?_;rintro e w3 ⟨sb,rfl,hkn,hb3⟩;have tw3:w3.cell? ⟨w.heap.size,0,none⟩=some (.slice (some ⟨b,0,none⟩) j cap):=(hb3.cell (p:=⟨w.heap.size,0,none⟩) (by show w.heap.size < wr.heap.size;omega)).trans tw;have HKN:=hid hkn;have HB3:=hid ((Below.refl wr.heap.size wr).drew.trans hb3);clear hkn hb3)
      | (go_at_call 36;refine (HWK.out _ (fun i=>if i < j then -1 else 0) _ (HATW.out.go HB3.out) ((HTR.out.go HSVW.out).go (Sv.of_below HB3.out)) HKN.out).mono ?_;rintro e w4 ⟨rfl,hen⟩;have HEN:=hid hen;have tw4:w4.cell? ⟨w.heap.size,0,none⟩=some (.slice (some ⟨b,0,none⟩) j cap):=((HSB.out _ (HSVW.out.trans ((Sv.of_below HB3.out).trans hen.1))).cell (p:=⟨w.heap.size,0,none⟩) (by show w.heap.size < w1.heap.size;omega)).trans t1;clear hen))
     obtain ⟨hsv4,bn,hat4,hbn⟩:=HEN.out
     have HB4:=hid (HSB.out _ (HSVW.out.trans ((Sv.of_below HB3.out).trans hsv4)))
     have hF4:w4.heap[w.heap.size+1]?=some (.cells #[.int .i64 0,.int .i64 0] 37 (0,0)):=(HB4.out.block _ (by omega)).trans hF1
     have HBW4:Hid (Below w.heap.size w w4):=HB1.out.trans (HB4.out.mono HB1.out.size)
     obtain ⟨r0,r1,r2,r3⟩:w4.cell? ⟨w.heap.size+1,0,none⟩=some (.int .i64 0)∧w4.cell? ⟨w.heap.size+1,1,none⟩=some (.int .i64 0)∧w4.frozen? ⟨w.heap.size+1,0,none⟩=false∧w4.frozen? ⟨w.heap.size+1,1,none⟩=false:=zero2 hF4
     obtain ⟨-,-,g2,g3,g4,-,-⟩:=hat4.five
     rw [HM.out.2.2.2.1,HM.out.2.2.2.2,HM.out.1] at g2
     rw [HM.out.2.2.2.1] at g3 g4
     have HAT4:=hid hat4
     have HBN:=hid hbn
     clear hat4 hbn hsv4 HEN tw tw3 tw4 hwrap HWK
     cases hfl:fls (treeE nd o j) with
     | nil =>
      rw [hfl] at g3 g4
      change w4.cell? ⟨bb,3,none⟩=some (.int .i64 0) at g3
      change w4.cell? ⟨bb,4,none⟩=some (.int .i64 0) at g4
      have HFL:=hid hfl
      clear hfl
      have q0:=ret2 hF4 (.int .i64 0) (.int .i64 0)
      obtain ⟨q1,q2⟩:=q0
      have HFIN:Hid (Below w.heap.size w ((w4.setCell ⟨w.heap.size+1,0,none⟩ (.int .i64 0)).setCell ⟨w.heap.size+1,1,none⟩ (.int .i64 0))∧BnAt ((w4.setCell ⟨w.heap.size+1,0,none⟩ (.int .i64 0)).setCell ⟨w.heap.size+1,1,none⟩ (.int .i64 0)) gm j (apB (fun _=>-1) (treeE nd o j))):=by
       refine ⟨(HBW4.out.setCell (p:=⟨w.heap.size+1,0,none⟩) (Nat.le_succ _) _).setCell (p:=⟨w.heap.size+1,1,none⟩) (Nat.le_succ _) _,?_⟩
       obtain ⟨cur,u1,u2,u3⟩:=HAT4.out.2
       rw [HM.out.2.2.2.2] at u1
       rw [HM.out.1] at u2 u3
       have e:=HBN.out HFL.out
       refine ⟨cur,(Below.heap_setCell _ _ _ _ (by show gm≠w.heap.size+1;omega)).trans ((Below.heap_setCell _ _ _ _ (by show gm≠w.heap.size+1;omega)).trans u1),u2,fun i hi=>?_⟩
       rw [u3 i hi,e,apB_at _ (fun i=>if i < j then -1 else 0) (fun _=>-1) i (if_pos hi)]
      clear hF4
      go_wp2
      clear r0 r1 r2 r3 g2 g3 g4 t1 hF1
      generalize (w4.setCell ⟨w.heap.size+1,0,none⟩ (.int .i64 0)).setCell ⟨w.heap.size+1,1,none⟩ (.int .i64 0)=w5 at *
      refine bodyPost_ret (v:=.tuple #[.slice (some ⟨gm,0,none⟩) j j,.agg #[.int .i64 0,.int .i64 0]]) (by simp [results,Tryz.results16,go_sem,q1,q2]) rfl ?_
      exact ⟨HFIN.out.1,.inr ⟨o,xx,HV.out,HKF.out,.inr ⟨HFL.out,gm,rfl,by omega,HFIN.out.2⟩⟩⟩
     | cons y l =>
      obtain ⟨k,c⟩:=y
      have hc0:c≠0:=by
       have h1:=(srt_tree HKF.out hV1 (fun i hi=>(HFT.out i hi).2) hV3).2 (k,c) (by rw [hfl];simp)
       simp only at h1
       omega
      rw [hfl,ft_first k c hc0 l] at g3 g4
      change w4.cell? ⟨bb,3,none⟩=some (.int .i64 (c:Nat)) at g3
      change w4.cell? ⟨bb,4,none⟩=some (.int .i64 (k:Nat)) at g4
      have HFL:=hid hfl
      clear hfl
      have q0:=ret2 hF4 (.int .i64 (c:Nat)) (.int .i64 (k:Nat))
      obtain ⟨q1,q2⟩:=q0
      have HFIN:Hid (Below w.heap.size w ((w4.setCell ⟨w.heap.size+1,0,none⟩ (.int .i64 (c:Nat))).setCell ⟨w.heap.size+1,1,none⟩ (.int .i64 (k:Nat)))):=(HBW4.out.setCell (p:=⟨w.heap.size+1,0,none⟩) (Nat.le_succ _) _).setCell (p:=⟨w.heap.size+1,1,none⟩) (Nat.le_succ _) _
      clear hF4
      go_wp2
      go_region
      all_goals go_wp2
      clear r0 r1 r2 r3 g2 g3 g4 t1 hF1
      generalize (w4.setCell ⟨w.heap.size+1,0,none⟩ (.int .i64 (c:Nat))).setCell ⟨w.heap.size+1,1,none⟩ (.int .i64 (k:Nat))=w5 at *
      have q3:w5.drew.cell? ⟨w.heap.size+1,0,none⟩=some (.int .i64 (c:Nat)):=q1
      have q4:w5.drew.cell? ⟨w.heap.size+1,1,none⟩=some (.int .i64 (k:Nat)):=q2
      refine bodyPost_ret (v:=.tuple #[.slice none 0 0,.agg #[.int .i64 (c:Nat),.int .i64 (k:Nat)]]) (by simp [results,Tryz.results16,go_sem,q3,q4]) rfl ?_
      exact ⟨HFIN.out.drew,.inr ⟨o,xx,HV.out,HKF.out,.inl ⟨k,c,l,HFL.out,rfl⟩⟩⟩
 ·have HV:=hid hV
  clear hV hs1
  have HBE:Hid (Below w.heap.size w ((w1.setCell ⟨w.heap.size+1,0,none⟩ (.int .i64 11)).setCell ⟨w.heap.size+1,1,none⟩ (.int .i64 0))):=(HB1.out.setCell (p:=⟨w.heap.size+1,0,none⟩) (Nat.le_succ _) _).setCell (p:=⟨w.heap.size+1,1,none⟩) (Nat.le_succ _) _
  have q0:=set_atC (.int .i64 0) (i:=1) (set_atC (.int .i64 11) (i:=0) hF1)
  have q1:((w1.setCell ⟨w.heap.size+1,0,none⟩ (.int .i64 11)).setCell ⟨w.heap.size+1,1,none⟩ (.int .i64 0)).cell? ⟨w.heap.size+1,0,none⟩=some (.int .i64 11):=by unfold World.cell?;rw [q0];rfl
  have q2:((w1.setCell ⟨w.heap.size+1,0,none⟩ (.int .i64 11)).setCell ⟨w.heap.size+1,1,none⟩ (.int .i64 0)).cell? ⟨w.heap.size+1,1,none⟩=some (.int .i64 0):=by unfold World.cell?;rw [q0];rfl
  clear q0
  go_wp2
  clear r0 r1 r2 r3 t1 hF1
  generalize (w1.setCell ⟨w.heap.size+1,0,none⟩ (.int .i64 11)).setCell ⟨w.heap.size+1,1,none⟩ (.int .i64 0)=w2 at *
  refine bodyPost_ret (v:=.tuple #[.slice none 0 0,.agg #[.int .i64 11,.int .i64 0]]) (by simp [results,Tryz.results16,go_sem,q1,q2]) rfl ?_
  exact ⟨HBE.out,.inl ⟨HV.out,rfl⟩⟩
end Go.Proofs.YthnohneaanphbaaGreatDoor
namespace Go.Proofs.YthnohneaanphbaaGreatDoor
open Go.RowKit
set_option maxRecDepth 20000
def FaultI (nd:Nat→Nd) (N:Nat) (c a:Int):Prop:=(¬ ValidT nd N∧c=11∧a=0) ∨
 ∃ o x,ValidT nd N∧kidsF nd N=some (o,[x])∧((∃ k d r,fls (treeE nd o N)=(k,d) :: r∧d≠0∧c=((d:Nat):Int)∧a=((k:Nat):Int))∨(fls (treeE nd o N)=[]∧c=0∧a=0))
theorem FaultI.unique {nd:Nat→Nd} {N:Nat} {c a c' a':Int} (h:FaultI nd N c a) (h':FaultI nd N c' a'):c=c'∧a=a':=by
 rcases h with ⟨h1,rfl,rfl⟩ | ⟨o,x,hv,ho,h2⟩
 ·rcases h' with ⟨_,rfl,rfl⟩ | ⟨o',x',hv',_⟩
  ·exact ⟨rfl,rfl⟩
  ·exact absurd hv' h1
 ·rcases h' with ⟨h1,_⟩ | ⟨o',x',hv',ho',h2'⟩
  ·exact absurd hv h1
  ·rw [ho] at ho'
   injection ho' with e
   injection e with e1 _
   subst e1
   rcases h2 with ⟨k,d,r,e1,_,rfl,rfl⟩ | ⟨e1,rfl,rfl⟩
   ·rcases h2' with ⟨k',d',r',e2,_,rfl,rfl⟩ | ⟨e2,_⟩
    ·rw [e1] at e2
     injection e2 with e2 _
     injection e2 with e3 e4
     exact ⟨by rw [e4],by rw [e3]⟩
    ·rw [e1] at e2;cases e2
   ·rcases h2' with ⟨k',d',r',e2,_⟩ | ⟨_,rfl,rfl⟩
    ·rw [e1] at e2;cases e2
    ·exact ⟨rfl,rfl⟩
theorem code_pos {nd:Nat→Nd} {N x:Nat} {o:List (List Nat)} (hv:ValidT nd N) (ho:kidsF nd N=some (o,[x])) {k c:Nat} {r:List (Nat × Nat)} (h:fls (treeE nd o N)=(k,c) :: r):c≠0:=by
 obtain ⟨h1,_,h3,o',x',ho',hf⟩:=hv
 rw [ho] at ho'
 injection ho' with e
 injection e with e1 _
 subst e1
 have h1:=(srt_tree ho h1 (fun i hi=>(hf i hi).2) h3).2 (k,c) (by rw [h];simp)
 simp only at h1
 omega
theorem faultI_of {nd:Nat→Nd} {N:Nat} {c a:Int} (h:CheckR nd N c a):FaultI nd N c a:=by
 rcases h with h | ⟨o,x,hv,ho,cf,hok,h⟩
 ·exact .inl h
 ·refine .inr ⟨o,x,hv,ho,?_⟩
  obtain ⟨h1,_,h3,o',x',ho',hf⟩:=id hv
  rw [ho] at ho'
  injection ho' with e
  injection e with e1 _
  subst e1
  have hs:=first_same ho h1 (fun i hi=>(hf i hi).2) h3 hok
  cases hfl:fls (treeE nd o N) with
  | nil =>
   have h0:=hs.1 hfl
   rcases h with ⟨_,rfl,rfl⟩ | ⟨i,hi,hc,_⟩
   ·exact .inr ⟨rfl,rfl,rfl⟩
   ·exact absurd (h0 i) hc
  | cons y l =>
   obtain ⟨k,d⟩:=y
   obtain ⟨hk,hc,hd,hlow⟩:=hs.2 k d l hfl
   refine .inl ⟨k,d,l,rfl,hd,?_⟩
   rcases h with ⟨hz,_⟩ | ⟨i,hi,hci,hl2,rfl,rfl⟩
   ·exact absurd (hz k hk) (by rw [hc];exact hd)
   ·have:i=k:=by
     rcases Nat.lt_trichotomy i k with h | h | h
     ·exact absurd (hlow i h) hci
     ·exact h
     ·exact absurd (hl2 k h) (by rw [hc];exact hd)
    subst this
    exact ⟨by rw [hc],rfl⟩
def BindI (nd:Nat→Nd) (N:Nat) (M:Nat) (bn:Nat→Int):Prop:=(M=0∧¬ FaultI nd N 0 0)∨(M=N∧∃ o x,ValidT nd N∧kidsF nd N=some (o,[x])∧fls (treeE nd o N)=[]∧bn=apB (fun _=>-1) (treeE nd o N))
theorem BoundEnd.fault {nd:Nat→Nd} {N:Nat} {w w':World} {e:Ending} (h:BoundEnd nd N w w' e):Below w.heap.size w w'∧∃ ad M c a bn,e=.returned (.tuple #[.slice ad M M,.agg #[.int .i64 c,.int .i64 a]])∧FaultI nd N c a∧IntsA w' ad M bn∧BindI nd N M bn∧(M≠0→∃ g,ad=some ⟨g,0,none⟩∧w.heap.size≤g)∧M≤N:=by
 obtain ⟨hb,h⟩:=h
 refine ⟨hb,?_⟩
 rcases h with ⟨hv,rfl⟩ | ⟨o,x,hv,ho,h⟩
 ·have hf:FaultI nd N 11 0:=.inl ⟨hv,rfl,rfl⟩
  exact ⟨none,0,11,0,fun _=>0,rfl,hf,.inl rfl,.inl ⟨rfl,fun h=>by have:=(hf.unique h).1;omega⟩,fun h=>absurd rfl h,Nat.zero_le _⟩
 ·rcases h with ⟨k,c,r,hfl,rfl⟩ | ⟨hfl,gb,rfl,hg,hbn⟩
  ·have hc:=code_pos hv ho hfl
   have hf:FaultI nd N (c:Nat) (k:Nat):=.inr ⟨o,x,hv,ho,.inl ⟨k,c,r,hfl,hc,rfl,rfl⟩⟩
   exact ⟨none,0,(c:Nat),(k:Nat),fun _=>0,rfl,hf,.inl rfl,.inl ⟨rfl,fun h=>by have:=(hf.unique h).1;omega⟩,fun h=>absurd rfl h,Nat.zero_le _⟩
  ·have hf:FaultI nd N 0 0:=.inr ⟨o,x,hv,ho,.inr ⟨hfl,rfl,rfl⟩⟩
   obtain ⟨cur,h1,h2,h3⟩:=hbn
   exact ⟨some ⟨gb,0,none⟩,N,0,0,_,rfl,hf,.inr ⟨gb,cur,rfl,h1,h3⟩,.inr ⟨rfl,o,x,hv,ho,hfl,rfl⟩,fun _=>⟨gb,rfl,hg⟩,Nat.le_refl _⟩
set_option maxHeartbeats 2000000 in
theorem implBinds_any (b N cap:Nat) (nd:Nat→Nd) (w:World) (hN:N≤1048576) (hb:b < w.heap.size) (hn:NodesAt w b N nd) (hx:∀ i,i < N→(nd i).text.size≤maxLen) (hE:BEnv w) :
  Calls Tryz.prog 8 #[.agg #[.slice (some ⟨b,0,none⟩) N cap]] w fun e w'=>(∃ ad M bn,e=.returned (.slice ad M M)∧IntsA w' ad M bn∧BindI nd N M bn∧(M≠0→∃ g,ad=some ⟨g,0,none⟩∧w.heap.size≤g)∧M≤N)∧Below w.heap.size w w':=by
 have HA:Hid (Below w.heap.size w (w.alloc (.cells #[.slice (some ⟨b,0,none⟩) N cap] 25))):=(Below.refl _ _).alloc (Nat.le_refl _) _
 have HN:=hid (hn.below HA.out hb)
 have HX:=hid hx
 have HE:=hid (hE.below HA.out hE.pos)
 clear hn hx hE
 go_enter Tryz.func8,Tryz.ntmps8
 go_wp2_with fail
 refine (bound_any b N cap nd _ hN (by simp;omega) HN.out HX.out HE.out).mono ?_
 intro e w1 he
 obtain ⟨hb1,ad,M,c,a,bn,rfl,-,hi,hbi,hg,hM⟩:=he.fault
 have hsz:w.heap.size+1≤w1.heap.size:=by have:=hb1.size;simpa using this
 have HI:Hid (IntsA (w1.alloc (.cells #[.int .i64 c,.int .i64 a] 37)) ad M bn):=by
  rcases hi with rfl | ⟨g,cur,rfl,h1,h2⟩
  ·exact .inl rfl
  ·exact .inr ⟨g,cur,rfl,(Below.heap_alloc _ _ _ (Array.getElem?_eq_some_iff.1 h1).1).trans h1,h2⟩
 have HBI:=hid hbi
 have HG:Hid (M≠0→∃ g,ad=some ⟨g,0,none⟩∧w.heap.size≤g):=fun h=>by obtain ⟨g,h1,h2⟩:=hg h;exact ⟨g,h1,by simp at h2;omega⟩
 have HB:=hid ((HA.out.trans (hb1.mono (by simp))).alloc (by omega) (.cells #[.int .i64 c,.int .i64 a] 37))
 clear hb1 hi hbi hg he
 go_wp2
 go_ret
 exact ⟨⟨ad,M,bn,rfl,HI.out,HBI.out,HG.out,hM⟩,HB.out⟩
theorem field_code (c a:Int) (W:World):(Instr.field 37 (.agg #[.int .i64 c,.int .i64 a]) 0).run Tryz.prog W=.ok (.int .i64 c) W:=by
 simp [go_sem,Instr.field,asAgg]
set_option maxHeartbeats 2000000 in
theorem specFits_any (b N cap:Nat) (nd:Nat→Nd) (w:World) (hN:N≤1048576) (hb:b < w.heap.size) (hn:NodesAt w b N nd) (hx:∀ i,i < N→(nd i).text.size≤maxLen) :
  Calls Tryz.prog 21 #[.agg #[.slice (some ⟨b,0,none⟩) N cap]] w fun e w'=>(∃ c a,e=.returned (.bool (decide (c=0)))∧FaultI nd N c a)∧Below w.heap.size w w':=by
 have HA:Hid (Below w.heap.size w (w.alloc (.cells #[.slice (some ⟨b,0,none⟩) N cap] 25))):=(Below.refl _ _).alloc (Nat.le_refl _) _
 have HN:=hid (hn.below HA.out hb)
 have HX:=hid hx
 clear hn hx
 go_enter Tryz.func21,Tryz.ntmps21
 go_wp2_with fail
 refine (specCheck_any b N cap nd _ hN (by simp;omega) HN.out HX.out).mono ?_
 rintro e w1 ⟨⟨c,a,rfl,hc⟩,hb1⟩
 have HF:=hid (faultI_of hc)
 have HB:=hid (HA.out.trans (hb1.mono (by simp)))
 clear hc hb1
 have hfc:=field_code c a w1
 go_wp2
 go_ret
 exact ⟨⟨c,a,by simp;exact Bool.eq_iff_iff.2 (by simp),HF.out⟩,HB.out⟩
set_option maxHeartbeats 2000000 in
theorem specBinds_any (b N cap:Nat) (nd:Nat→Nd) (w:World) (hN:N≤1048576) (hb:b < w.heap.size) (hn:NodesAt w b N nd) (hx:∀ i,i < N→(nd i).text.size≤maxLen) :
  Calls Tryz.prog 26 #[.agg #[.slice (some ⟨b,0,none⟩) N cap]] w fun e w'=>(∃ ad M c bn,e=.returned (.slice ad M c)∧IntsA w' ad M bn∧BindI nd N M bn∧M≤N∧(M≠0→∃ g,ad=some ⟨g,0,none⟩∧w.heap.size≤g))∧Below w.heap.size w w':=by
 have HA:Hid (Below w.heap.size w (w.alloc (.cells #[.slice (some ⟨b,0,none⟩) N cap] 25))):=(Below.refl _ _).alloc (Nat.le_refl _) _
 have HN:=hid hn
 have HX:=hid hx
 clear hn hx
 go_enter Tryz.func26,Tryz.ntmps26
 go_wp2_with fail
 refine (specFits_any b N cap nd _ hN (by simp;omega) (HN.out.below HA.out hb) HX.out).mono ?_
 rintro e w1 ⟨⟨c,a,rfl,hc⟩,hb1⟩
 have HC:=hid hc
 have HB1:=hid (HA.out.trans (hb1.mono (by simp)))
 have hw1:w.heap.size < w1.heap.size:=by have:=hb1.size;simp at this;omega
 have t1:w1.cell? ⟨w.heap.size,0,none⟩=some (.slice (some ⟨b,0,none⟩) N cap):=by
  rw [hb1.cell (p:=⟨w.heap.size,0,none⟩) (by simp)]
  exact cell_new_row w _ _ 0
 clear hc hb1
 by_cases h0:c=0
 ·subst h0
  rw [decide_eq_true rfl]
  obtain ⟨o,x,hv,ho,hfl⟩:∃ o x,ValidT nd N∧kidsF nd N=some (o,[x])∧fls (treeE nd o N)=[]:=by
   rcases HC.out with ⟨_,h,_⟩ | ⟨o,x,hv,ho,⟨k,d,r,_,hd,h,_⟩ | ⟨h,_⟩⟩
   ·omega
   ·omega
   ·exact ⟨o,x,hv,ho,h⟩
  have HV:=hid hv
  have HO:=hid ho
  have HFL:=hid hfl
  clear hv ho hfl
  go_wp2_with fail
  refine (l3Look_any b N cap nd o _ (Nat.lt_of_lt_of_le hb HB1.out.size) (HN.out.below HB1.out hb) HX.out HV.out x HO.out).mono ?_
  rintro e w2 ⟨wb,gc,gb,gk,b',cap',ck,cf,bn,rfl,hwb,hgc,hgb,hok,hbn,hg,hb2⟩
  have f3:w2.cell? ⟨wb,3,none⟩=some (.slice (some ⟨gb,0,none⟩) N N):=by unfold World.cell?;rw [hwb];rfl
  have HFIN:Hid (IntsA w2 (some ⟨gb,0,none⟩) N bn∧BindI nd N N bn∧Below w.heap.size w w2∧w.heap.size≤gb):=by
   obtain ⟨h1,h2,h3,o',x',ho',hf⟩:=HV.out
   have ho:=HO.out
   rw [ho] at ho'
   injection ho' with e
   injection e with e1 _
   subst e1
   have hfs:=fun i hi=>(hf i hi).2
   have e0:fls (lookE nd o N)=[]:=by
    cases hl:fls (lookE nd o N) with
    | nil=>rfl
    | cons y l =>
     have:y ∈ fls (treeE nd o N):=(faults_same ho h1 hfs h3 y).2 (by rw [hl];simp)
     rw [HFL.out] at this
     cases this
   have e1:=hbn e0
   rw [← binds_same ho h1 hfs h3 HFL.out] at e1
   obtain ⟨cur,u1,u2,u3⟩:=hgb
   exact ⟨.inr ⟨gb,cur,rfl,u1,u3⟩,.inr ⟨rfl,o,x,HV.out,ho,HFL.out,e1⟩,HB1.out.trans (hb2.mono HB1.out.size),Nat.le_trans HB1.out.size hg⟩
  clear hwb hgc hgb hok hbn hg hb2
  go_wp2
  go_ret
  exact ⟨⟨some ⟨gb,0,none⟩,N,N,bn,rfl,HFIN.out.1,HFIN.out.2.1,Nat.le_refl _,fun _=>⟨gb,rfl,HFIN.out.2.2.2⟩⟩,HFIN.out.2.2.1⟩
 ·rw [decide_eq_false h0]
  have HNF:Hid (¬ FaultI nd N 0 0):=fun h=>h0 (HC.out.unique h).1
  go_wp2
  go_ret
  exact ⟨⟨_,0,_,fun _=>0,rfl,.inl rfl,.inl ⟨rfl,HNF.out⟩,Nat.zero_le _,fun h=>absurd rfl h⟩,HB1.out.alloc HB1.out.size _⟩
theorem BindI.unique {nd:Nat→Nd} {N M M':Nat} {bn bn':Nat→Int} (h:BindI nd N M bn) (h':BindI nd N M' bn'):M=M'∧(M≠0→bn=bn'):=by
 have hf:∀ {M bn},(M=N∧∃ o x,ValidT nd N∧kidsF nd N=some (o,[x])∧fls (treeE nd o N)=[]∧bn=apB (fun _=>-1) (treeE nd o N))→FaultI nd N 0 0:=fun ⟨_,o,x,hv,ho,hfl,_⟩=>.inr ⟨o,x,hv,ho,.inr ⟨hfl,rfl,rfl⟩⟩
 rcases h with ⟨rfl,h⟩ | h
 ·rcases h' with ⟨rfl,_⟩ | h'
  ·exact ⟨rfl,fun h=>absurd rfl h⟩
  ·exact absurd (hf h') h
 ·rcases h' with ⟨rfl,h'⟩ | h'
  ·exact absurd (hf h) h'
  ·obtain ⟨rfl,o,x,_,ho,_,rfl⟩:=h
   obtain ⟨rfl,o',x',_,ho',_,rfl⟩:=h'
   rw [ho] at ho'
   injection ho' with e
   injection e with e1 _
   subst e1
   exact ⟨rfl,fun _=>rfl⟩
end Go.Proofs.YthnohneaanphbaaGreatDoor
namespace Go.Proofs.YthnohneaanphbaaGreatDoor
open Go.RowKit
theorem IntsA.lt {W:World} {ad:Option Addr} {M:Nat} {bn:Nat→Int} (h:IntsA W ad M bn) (hM:M≠0) (g:Nat) (e:ad=some ⟨g,0,none⟩):g < W.heap.size:=by
 rcases h with h | ⟨g',cur,e',h1,_⟩
 ·exact absurd h hM
 ·rw [e] at e'
  injection e' with e'
  injection e' with e'
  subst e'
  exact (Array.getElem?_eq_some_iff.1 h1).1
theorem IntsA.next {W W':World} {ad:Option Addr} {M:Nat} {bn:Nat→Int} (h:IntsA W ad M bn) (hb:Below W.heap.size W W'):IntsA W' ad M bn:=by
 rcases h with h | ⟨g,cur,rfl,h1,h2⟩
 ·exact .inl h
 ·exact .inr ⟨g,cur,rfl,(hb.block g (Array.getElem?_eq_some_iff.1 h1).1).trans h1,h2⟩
theorem Filling.next {W W':World} {g N j:Nat} {nd:Nat→Nd} (h:Filling W g N j nd) (hb:Below W.heap.size W W'):Filling W' g N j nd:=by
 obtain ⟨⟨cur,h1,h2⟩,h3⟩:=h
 have hl:=(Array.getElem?_eq_some_iff.1 h1).1
 exact ⟨⟨cur,(hb.block g hl).trans h1,h2⟩,h3.below hb hl⟩
end Go.Proofs.YthnohneaanphbaaGreatDoor
namespace Go.Proofs.YthnohneaanphbaaGreatDoor
open Go.RowKit
set_option maxRecDepth 20000
def isLoc (nd:Nat→Nd) (i:Nat):Bool:=decide ((nd i).kind=14∨(nd i).kind=16)
def locs (nd:Nat→Nd) (n:Nat):List Nat:=(List.range n).filter (isLoc nd)
theorem locs_yes {nd:Nat→Nd} {n:Nat} (h:isLoc nd n=true):locs nd (n+1)=locs nd n ++ [n]:=by
 unfold locs
 rw [List.range_succ,List.filter_append]
 simp [h]
theorem locs_no {nd:Nat→Nd} {n:Nat} (h:isLoc nd n=false):locs nd (n+1)=locs nd n:=by
 unfold locs
 rw [List.range_succ,List.filter_append]
 simp [h]
theorem locs_len (nd:Nat→Nd) (n:Nat):(locs nd n).length≤n:=by
 have:=List.length_filter_le (isLoc nd) (List.range n)
 rw [List.length_range] at this
 exact this
theorem ints_of_own {W:World} {B n:Nat} {v:Value} {L:List Nat} (h:W.ownsRow B 3 1 v n (intRow L)) (hL:L.length=n):∃ ad c,v=.slice ad n c∧IntsA W ad n (fun i=>((L.getD i 0:Nat):Int))∧(n≠0→∃ g,ad=some ⟨g,0,none⟩∧B≤g):=by
 obtain ⟨_,⟨rfl,rfl⟩ | ⟨g,cap,cur,rfl,hg,hh,hn,_,hs,ht⟩⟩:=h
 ·exact ⟨none,0,rfl,.inl rfl,fun h=>absurd rfl h⟩
 ·refine ⟨some ⟨g,0,none⟩,cap,rfl,.inr ⟨g,cur,rfl,hh,fun i hi=>?_⟩,fun _=>⟨g,rfl,hg⟩⟩
  have e:(cur.toList.take (n * 1))[i]?=(intRow L)[i]?:=by rw [ht]
  rw [List.getElem?_take_of_lt (by omega),Array.getElem?_toList] at e
  rw [e]
  unfold intRow
  show _=some (Value.int .i64 ((L.getD i 0:Nat):Int))
  rw [List.getElem?_map,List.getD_eq_getElem?_getD,List.getElem?_eq_getElem (by omega)]
  rfl
def LocI (nd:Nat→Nd) (N M:Nat) (bn:Nat→Int):Prop:=(M=0∧¬ FaultI nd N 0 0)∨(FaultI nd N 0 0∧M=(locs nd N).length∧bn=fun i=>(((locs nd N).getD i 0:Nat):Int))
theorem LocI.unique {nd:Nat→Nd} {N M M':Nat} {bn bn':Nat→Int} (h:LocI nd N M bn) (h':LocI nd N M' bn'):M=M'∧(M≠0→bn=bn'):=by
 rcases h with ⟨rfl,h⟩ | ⟨hf,rfl,rfl⟩
 ·rcases h' with ⟨rfl,_⟩ | ⟨h',_⟩
  ·exact ⟨rfl,fun h=>absurd rfl h⟩
  ·exact absurd h' h
 ·rcases h' with ⟨rfl,h'⟩ | ⟨_,rfl,rfl⟩
  ·exact absurd hf h'
  ·exact ⟨rfl,fun _=>rfl⟩
theorem faultI_code {nd:Nat→Nd} {N:Nat} {a:Int} (h:FaultI nd N 0 a):FaultI nd N 0 0:=by
 rcases h with ⟨_,h,_⟩ | ⟨o,x,hv,ho,⟨k,d,r,_,hd,h,_⟩ | ⟨h,_⟩⟩
 ·omega
 ·omega
 ·exact .inr ⟨o,x,hv,ho,.inr ⟨h,rfl,rfl⟩⟩
set_option maxHeartbeats 2000000 in
theorem specLocals_any (b N cap:Nat) (nd:Nat→Nd) (w:World) (hN:N≤1048576) (hb:b < w.heap.size) (hn:NodesAt w b N nd) (hx:∀ i,i < N→(nd i).text.size≤maxLen) :
  Calls Tryz.prog 13 #[.agg #[.slice (some ⟨b,0,none⟩) N cap]] w fun e w'=>(∃ ad M c bn,e=.returned (.slice ad M c)∧IntsA w' ad M bn∧LocI nd N M bn∧M≤N∧(M≠0→∃ g,ad=some ⟨g,0,none⟩∧w.heap.size≤g))∧Below w.heap.size w w':=by
 have HN:=hid hn
 have HX:=hid hx
 obtain ⟨i0,hi,hz0,hz1,hz2⟩:=info_parts info_int
 have HHI:=hid (And.intro hi (And.intro hz0 (And.intro hz1 hz2)))
 clear hi hz0 hz1 hz2 hn hx
 have HA:Hid (Below (w.heap.size+1) (w.alloc (.cells #[.slice (some ⟨b,0,none⟩) N cap] 25)) ((w.alloc (.cells #[.slice (some ⟨b,0,none⟩) N cap] 25)).alloc (.cells #[] 3))):=(Below.refl _ _).alloc (by simp) _
 have O0:Hid (World.ownsRow ((w.alloc (.cells #[.slice (some ⟨b,0,none⟩) N cap] 25)).alloc (.cells #[] 3)) (w.heap.size+1) 3 1 (.slice (some ⟨w.heap.size+1,0,none⟩) 0 0) 0 []):=by
  have:=World.ownsRow_made (base:=w.heap.size+1) (e:=3) (size:=1) (w.alloc (.cells #[.slice (some ⟨b,0,none⟩) N cap] 25)) #[] 0 (by simp) (by unfold maxLen;omega) rfl
  rw [World.size_alloc] at this
  exact this
 go_enter Tryz.func13,Tryz.ntmps13
 go_wp2_with fail
 refine (specFits_any b N cap nd _ hN (by simp;omega) (HN.out.below (btree HA.out) hb) HX.out).mono ?_
 rintro e w1 ⟨⟨c,a,rfl,hc⟩,hb1⟩
 have HC:=hid hc
 have HB1:=hid (HA.out.trans (hb1.mono (by simp)))
 have O1:Hid (World.ownsRow w1 (w.heap.size+1) 3 1 (.slice (some ⟨w.heap.size+1,0,none⟩) 0 0) 0 []):=own_keepC O0.out fun r hr=>hb1.block r (own_lt O0.out hr).2
 clear hc hb1 O0
 by_cases h0:c=0
 ·subst h0
  have HF0:=hid (faultI_code HC.out)
  rw [decide_eq_true rfl]
  go_wp2
  go_loopw [3,4] (fun vo i wr=>∃ (j:Nat) (g c:Nat),j≤N∧i=.int .i64 j∧vo=.slice (some ⟨g,0,none⟩) (locs nd j).length c∧World.ownsRow wr (w.heap.size+1) 3 1 vo (locs nd j).length (intRow (locs nd j))∧Below (w.heap.size+1) (w.alloc (.cells #[.slice (some ⟨b,0,none⟩) N cap] 25)) wr) (fun _ i _=>N - (intOf i).toNat)
  case atStart=>exact ⟨0,w.heap.size+1,0,Nat.zero_le _,rfl,rfl,O1.out,HB1.out⟩
  case round =>
   obtain ⟨j,g,c,hj,rfl,rfl,hown,hbw⟩:=hrel
   have HO:=hid hown
   have HBW:=hid hbw
   have t0:=tree_cell hbw
   have HB:=hid (btree hbw)
   have hsz2:=hbw.size
   have hlen:=locs_len nd j
   clear hown hbw O1 HB1
   by_cases hlt:j < N
   ·obtain ⟨a0,a1,a2,a3,a4⟩:=(HN.out.below HB.out hb) j hlt
    clear a1 a2 a3 a4
    obtain ⟨nm,hnm⟩:∃ nm,(locs nd j).length=nm:=⟨_,rfl⟩
    have HNM:=hid hnm
    rw [hnm] at hlen HO ⊢
    clear hnm
    by_cases hl:isLoc nd j=true
    ·have HLY:=hid (locs_yes hl)
     have hk:(nd j).kind=14∨(nd j).kind=16:=by simpa [isLoc] using hl
     clear hl
     rcases hk with hk | hk
     all_goals
      rw [hk] at a0
      clear hk
      go_wp2_with (at_builtin;refine wpList_append_own_at _ rfl (.tmp 33) (.tmp 35) 31 rfl (w.heap.size+1) 3 i0 (.int .i64 0) 1 8 Tryz.underlying31 HHI.out.1 HHI.out.2.1 HHI.out.2.2.1 HHI.out.2.2.2 rfl (by decide) (.slice (some ⟨g,0,none⟩) nm c) _ _ rfl (own_two HO.out _) ⟨wr.heap.size,0,none⟩ 1 1 [.int .i64 j] rfl rfl (cell_one_new wr _ _) (by simp [Value.oneCell']) (by unfold maxLen;omega) (by omega) (by simp at hsz2 ⊢;omega) ?_;intro v5 w5 o5 g5 nn5 b5;have O5:=hid o5;have G5:=hid g5;have NN5:=hid (some_not_nil nn5);clear o5 g5 nn5 b5)
      obtain ⟨g6,c6,rfl,hb6⟩:=own_not_nil O5.out NN5.out
      have HB5:Hid (Below (w.heap.size+1) (w.alloc (.cells #[.slice (some ⟨b,0,none⟩) N cap] 25)) w5):=(HBW.out.alloc (by simp at hsz2 ⊢;omega) _).grown G5.out (by simp at hsz2 ⊢;omega) (fun q e=>by simp [Value.ownBlock] at e;have:=own_lt HO.out (r:=g) rfl;omega)
      clear G5 NN5
      go_wp2
      go_roundw
      case rel =>
       refine ⟨j+1,g6,c6,by omega,by go_num,?_,?_,HB5.out⟩
       ·rw [HLY.out,List.length_append,HNM.out];rfl
       ·rw [HLY.out,List.length_append,HNM.out,intRow_append]
        exact O5.out
      case measure=>simp [intOf];omega
    ·have HLY:=hid (locs_no (by simpa using hl))
     have h14:¬ (nd j).kind=14:=fun e=>hl (by simp [isLoc,e])
     have h16:¬ (nd j).kind=16:=fun e=>hl (by simp [isLoc,e])
     have e14:((nd j).kind == 14)=false:=by simp [h14]
     have e16:((nd j).kind == 16)=false:=by simp [h16]
     clear hl
     go_wp2
     go_roundw
     case rel=>exact ⟨j+1,g,c,by omega,by go_num,by rw [HLY.out,HNM.out],by rw [HLY.out,HNM.out];exact HO.out,HBW.out⟩
     case measure=>simp [intOf];omega
   ·obtain rfl:j=N:=by omega
    go_wp2
    go_ret
    obtain ⟨ad,c',e,h1,h2⟩:=ints_of_own HO.out rfl
    exact ⟨⟨_,_,c,_,rfl,by cases e;exact h1,.inr ⟨HF0.out,rfl,rfl⟩,hlen,fun h=>by cases e;obtain ⟨g',e1,e2⟩:=h2 h;exact ⟨g',e1,by omega⟩⟩,HB.out⟩
 ·rw [decide_eq_false h0]
  have HNF:Hid (¬ FaultI nd N 0 0):=fun h=>h0 (HC.out.unique h).1
  go_wp2
  go_ret
  exact ⟨⟨_,0,_,fun _=>0,rfl,.inl rfl,.inl ⟨rfl,HNF.out⟩,Nat.zero_le _,fun h=>absurd rfl h⟩,btree HB1.out⟩
set_option maxHeartbeats 1000000 in
theorem isLocal_any (y:Nd) (w:World) :
  Calls Tryz.prog 17 #[.agg #[.int .i64 y.kind,.int .i64 y.op,.int .i64 y.n,.string y.text,.int .i64 y.kids]] w fun e w'=>e=.returned (.bool (decide (y.kind=14∨y.kind=16)))∧Below w.heap.size w w':=by
 have HB:Hid (∀ O,Below w.heap.size w (w.alloc O)):=fun O=>(Below.refl w.heap.size w).alloc (Nat.le_refl _) O
 by_cases h14:y.kind=14
 ·rw [decide_eq_true (.inl h14),h14]
  go_enter Tryz.func17,Tryz.ntmps17
  go_wp2
  go_ret
  exact ⟨rfl,HB.out _⟩
 ·by_cases h16:y.kind=16
  ·rw [decide_eq_true (.inr h16),h16]
   go_enter Tryz.func17,Tryz.ntmps17
   go_wp2
   go_ret
   exact ⟨rfl,HB.out _⟩
  ·rw [decide_eq_false (by rintro (h | h);exact h14 h;exact h16 h)]
   have e14:(y.kind == 14)=false:=by simp [h14]
   have e16:(y.kind == 16)=false:=by simp [h16]
   go_enter Tryz.func17,Tryz.ntmps17
   go_wp2
   go_ret
   exact ⟨by simp,HB.out _⟩
end Go.Proofs.YthnohneaanphbaaGreatDoor
