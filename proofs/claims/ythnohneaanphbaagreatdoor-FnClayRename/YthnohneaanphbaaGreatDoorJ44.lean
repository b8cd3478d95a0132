import Derived.Deep.DeepCutAuto
import Derived.Test.YthnohneaanphbaaGreatDoorJ43
import Derived.Test.YthnohneaanphbaaGreatDoorJ38
namespace Go.Proofs.YthnohneaanphbaaGreatDoor
open Go.RowKit
set_option maxRecDepth 20000
set_option maxHeartbeats 16000000 in
theorem args_at {s:Ds} {ov0:Value} {w0:World} {p n:Nat} {bad:Bool} {w:World} (hE:∀ q,p≤q→EOk9 s q) (h:Ad s ov0 w0 p bad n w) (hl:n+2 * s.T≤400000+2 * p) :
  Calls Tryz.prog 127 #[.pointer (some ⟨s.D,0,none⟩)] w (DI9 s ov0 w0 p n):=by
 have HA0:=hid h
 have hT:=h.pT.2
 clear h
 go_enter Tryz.func127,Tryz.ntmps127
 go_wp2
 go_loopw [3,4] (fun c3 c4 wr=>∃ m q k:Nat,∃ bb:Bool,c3=.int .i64 m∧(∃ nb:Bool,c4=.bool nb)∧p≤q∧n≤k∧k+2 * p≤n+2 * q∧m≤q - p∧Ad s ov0 w0 q bb k wr) (fun _ _ wr=>s.T - deskP s wr)
 case atStart=>exact ⟨0,p,n,_,rfl,⟨_,rfl⟩,by omega,by omega,by omega,by omega,HA0.out⟩
 case round =>
  obtain ⟨m,q,k,bb,rfl,⟨nb,rfl⟩,lq,lk,lkq,lm,ad⟩:=hrel
  have HAr:=hid ad
  have HDP:=hid ad.deskP
  have hqT:=ad.pT.1
  clear ad HA0
  obtain ⟨_,_,c3,_⟩:=HAr.out.cells
  cases bb
  ·rcases Nat.eq_zero_or_pos m with rfl | hm1
   ·go_wp2_with fail
    refine (is_at HAr.out _).mono ?_
    rintro e w1 (⟨rfl,l1,a1⟩ | ⟨rfl,a1⟩)
    ·have HA1:=hid a1
     clear a1 HAr
     go_wp2_with fail
     refine (need_at HA1.out _).mono ?_
     rintro e w2 ⟨rfl,p2,b2,l2a,l2b,a2⟩
     have HA2:=hid a2
     clear a2 HA1
     go_wp2
     go_ret
     exact ⟨0,p2,b2,k,rfl,by omega,by omega,by omega,by omega,HA2.out⟩
    ·have HA1:=hid a1
     clear a1 HAr
     cases nb
     ·go_wp2_with fail
      refine (named_at HA1.out).mono ?_
      rintro e w3 ⟨v3,rfl,a3⟩
      have HA3:=hid a3
      clear a3 HA1
      cases v3
      ·skip
       go_wp2_with fail
       refine (hE q (by omega) _ _ _ _ _ HA3.out (by have:=HA3.out.pT;omega)).mono ?_
       rintro e w4 ⟨rfl,p4,b4,n4,l4a,l4b,l4c,a4⟩
       have HA4:=hid a4
       clear a4 HA3
       go_wp2_with fail
       refine (take_at HA4.out _).mono ?_
       rintro e w5 (⟨rfl,l5,a5⟩ | ⟨rfl,a5⟩)
       ·have HA5:=hid a5
        clear a5 HA4
        go_wp2
        go_roundw
        case rel=>exact ⟨0+1,(p4+1),n4,false,by go_num,⟨_,rfl⟩,by omega,by omega,by omega,by omega,HA5.out⟩
        case measure=>rw [HA5.out.deskP,HDP.out];have:=HA5.out.pT;omega
       ·have HA5:=hid a5
        clear a5 HA4
        go_wp2_with fail
        refine (need_at HA5.out _).mono ?_
        rintro e w6 ⟨rfl,p6,b6,l6a,l6b,a6⟩
        have HA6:=hid a6
        clear a6 HA5
        go_wp2
        go_ret
        exact ⟨(0+1),p6,b6,n4,rfl,by omega,by omega,by omega,by omega,HA6.out⟩
      ·skip
       go_wp2_with fail
       refine (name_at9 HA3.out).mono ?_
       rintro e w7 ⟨t7,p7,b7,rfl,x7,l7a,l7b,l7c,a7⟩
       have HA7:=hid a7
       have HX7:=hid x7
       have HC7:=hid l7c
       clear a7 HA3 l7c x7
       go_wp2_with fail
       refine (need_at HA7.out _).mono ?_
       rintro e w8 ⟨rfl,p8,b8,l8a,l8b,a8⟩
       have HA8:=hid a8
       clear a8 HA7
       go_wp2_with fail
       refine (hE p8 (by omega) _ _ _ _ _ HA8.out (by have:=HA8.out.pT;omega)).mono ?_
       rintro e w9 ⟨rfl,p9,b9,n9,l9a,l9b,l9c,a9⟩
       have HA9:=hid a9
       clear a9 HA8
       go_wp2_with fail
       refine (put_at9 HA9.out ⟨18,0,0,t7,1⟩ (HX7.out) (by have:=HA9.out.pT;omega)).mono ?_
       rintro e w10 ⟨rfl,a10⟩
       have HA10:=hid a10
       clear a10 HA9
       go_wp2_with fail
       refine (take_at HA10.out _).mono ?_
       rintro e w11 (⟨rfl,l11,a11⟩ | ⟨rfl,a11⟩)
       ·have HA11:=hid a11
        clear a11 HA10
        go_wp2
        go_roundw
        case rel=>exact ⟨0+1,(p9+1),(n9+1),false,by go_num,⟨_,rfl⟩,by omega,by omega,by omega,by omega,HA11.out⟩
        case measure=>rw [HA11.out.deskP,HDP.out];have:=HA11.out.pT;omega
       ·have HA11:=hid a11
        clear a11 HA10
        go_wp2_with fail
        refine (need_at HA11.out _).mono ?_
        rintro e w12 ⟨rfl,p12,b12,l12a,l12b,a12⟩
        have HA12:=hid a12
        clear a12 HA11
        go_wp2
        go_ret
        exact ⟨(0+1),p12,b12,(n9+1),rfl,by omega,by omega,by omega,by omega,HA12.out⟩
     ·skip
      go_wp2_with fail
      refine (name_at9 HA1.out).mono ?_
      rintro e w13 ⟨t13,p13,b13,rfl,x13,l13a,l13b,l13c,a13⟩
      have HA13:=hid a13
      have HX13:=hid x13
      have HC13:=hid l13c
      clear a13 HA1 l13c x13
      go_wp2_with fail
      refine (need_at HA13.out _).mono ?_
      rintro e w14 ⟨rfl,p14,b14,l14a,l14b,a14⟩
      have HA14:=hid a14
      clear a14 HA13
      go_wp2_with fail
      refine (hE p14 (by omega) _ _ _ _ _ HA14.out (by have:=HA14.out.pT;omega)).mono ?_
      rintro e w15 ⟨rfl,p15,b15,n15,l15a,l15b,l15c,a15⟩
      have HA15:=hid a15
      clear a15 HA14
      go_wp2_with fail
      refine (put_at9 HA15.out ⟨18,0,0,t13,1⟩ (HX13.out) (by have:=HA15.out.pT;omega)).mono ?_
      rintro e w16 ⟨rfl,a16⟩
      have HA16:=hid a16
      clear a16 HA15
      go_wp2_with fail
      refine (take_at HA16.out _).mono ?_
      rintro e w17 (⟨rfl,l17,a17⟩ | ⟨rfl,a17⟩)
      ·have HA17:=hid a17
       clear a17 HA16
       go_wp2
       go_roundw
       case rel=>exact ⟨0+1,(p15+1),(n15+1),false,by go_num,⟨_,rfl⟩,by omega,by omega,by omega,by omega,HA17.out⟩
       case measure=>rw [HA17.out.deskP,HDP.out];have:=HA17.out.pT;omega
      ·have HA17:=hid a17
       clear a17 HA16
       go_wp2_with fail
       refine (need_at HA17.out _).mono ?_
       rintro e w18 ⟨rfl,p18,b18,l18a,l18b,a18⟩
       have HA18:=hid a18
       clear a18 HA17
       go_wp2
       go_ret
       exact ⟨(0+1),p18,b18,(n15+1),rfl,by omega,by omega,by omega,by omega,HA18.out⟩
   ·have hm2:(0:Int) < (m:Int):=by omega
    cases nb
    ·go_wp2_with fail
     refine (named_at HAr.out).mono ?_
     rintro e w19 ⟨v19,rfl,a19⟩
     have HA19:=hid a19
     clear a19 HAr
     cases v19
     ·skip
      go_wp2_with fail
      refine (hE q (by omega) _ _ _ _ _ HA19.out (by have:=HA19.out.pT;omega)).mono ?_
      rintro e w20 ⟨rfl,p20,b20,n20,l20a,l20b,l20c,a20⟩
      have HA20:=hid a20
      clear a20 HA19
      go_wp2_with fail
      refine (take_at HA20.out _).mono ?_
      rintro e w21 (⟨rfl,l21,a21⟩ | ⟨rfl,a21⟩)
      ·have HA21:=hid a21
       clear a21 HA20
       go_wp2
       go_roundw
       case rel=>exact ⟨m+1,(p20+1),n20,false,by go_num,⟨_,rfl⟩,by omega,by omega,by omega,by omega,HA21.out⟩
       case measure=>rw [HA21.out.deskP,HDP.out];have:=HA21.out.pT;omega
      ·have HA21:=hid a21
       clear a21 HA20
       go_wp2_with fail
       refine (need_at HA21.out _).mono ?_
       rintro e w22 ⟨rfl,p22,b22,l22a,l22b,a22⟩
       have HA22:=hid a22
       clear a22 HA21
       go_wp2
       go_ret
       exact ⟨(m+1),p22,b22,n20,rfl,by omega,by omega,by omega,by omega,HA22.out⟩
     ·skip
      go_wp2_with fail
      refine (name_at9 HA19.out).mono ?_
      rintro e w23 ⟨t23,p23,b23,rfl,x23,l23a,l23b,l23c,a23⟩
      have HA23:=hid a23
      have HX23:=hid x23
      have HC23:=hid l23c
      clear a23 HA19 l23c x23
      go_wp2_with fail
      refine (need_at HA23.out _).mono ?_
      rintro e w24 ⟨rfl,p24,b24,l24a,l24b,a24⟩
      have HA24:=hid a24
      clear a24 HA23
      go_wp2_with fail
      refine (hE p24 (by omega) _ _ _ _ _ HA24.out (by have:=HA24.out.pT;omega)).mono ?_
      rintro e w25 ⟨rfl,p25,b25,n25,l25a,l25b,l25c,a25⟩
      have HA25:=hid a25
      clear a25 HA24
      go_wp2_with fail
      refine (put_at9 HA25.out ⟨18,0,0,t23,1⟩ (HX23.out) (by have:=HA25.out.pT;omega)).mono ?_
      rintro e w26 ⟨rfl,a26⟩
      have HA26:=hid a26
      clear a26 HA25
      go_wp2_with fail
      refine (take_at HA26.out _).mono ?_
      rintro e w27 (⟨rfl,l27,a27⟩ | ⟨rfl,a27⟩)
      ·have HA27:=hid a27
       clear a27 HA26
       go_wp2
       go_roundw
       case rel=>exact ⟨m+1,(p25+1),(n25+1),false,by go_num,⟨_,rfl⟩,by omega,by omega,by omega,by omega,HA27.out⟩
       case measure=>rw [HA27.out.deskP,HDP.out];have:=HA27.out.pT;omega
      ·have HA27:=hid a27
       clear a27 HA26
       go_wp2_with fail
       refine (need_at HA27.out _).mono ?_
       rintro e w28 ⟨rfl,p28,b28,l28a,l28b,a28⟩
       have HA28:=hid a28
       clear a28 HA27
       go_wp2
       go_ret
       exact ⟨(m+1),p28,b28,(n25+1),rfl,by omega,by omega,by omega,by omega,HA28.out⟩
    ·skip
     go_wp2_with fail
     refine (name_at9 HAr.out).mono ?_
     rintro e w29 ⟨t29,p29,b29,rfl,x29,l29a,l29b,l29c,a29⟩
     have HA29:=hid a29
     have HX29:=hid x29
     have HC29:=hid l29c
     clear a29 HAr l29c x29
     go_wp2_with fail
     refine (need_at HA29.out _).mono ?_
     rintro e w30 ⟨rfl,p30,b30,l30a,l30b,a30⟩
     have HA30:=hid a30
     clear a30 HA29
     go_wp2_with fail
     refine (hE p30 (by omega) _ _ _ _ _ HA30.out (by have:=HA30.out.pT;omega)).mono ?_
     rintro e w31 ⟨rfl,p31,b31,n31,l31a,l31b,l31c,a31⟩
     have HA31:=hid a31
     clear a31 HA30
     go_wp2_with fail
     refine (put_at9 HA31.out ⟨18,0,0,t29,1⟩ (HX29.out) (by have:=HA31.out.pT;omega)).mono ?_
     rintro e w32 ⟨rfl,a32⟩
     have HA32:=hid a32
     clear a32 HA31
     go_wp2_with fail
     refine (take_at HA32.out _).mono ?_
     rintro e w33 (⟨rfl,l33,a33⟩ | ⟨rfl,a33⟩)
     ·have HA33:=hid a33
      clear a33 HA32
      go_wp2
      go_roundw
      case rel=>exact ⟨m+1,(p31+1),(n31+1),false,by go_num,⟨_,rfl⟩,by omega,by omega,by omega,by omega,HA33.out⟩
      case measure=>rw [HA33.out.deskP,HDP.out];have:=HA33.out.pT;omega
     ·have HA33:=hid a33
      clear a33 HA32
      go_wp2_with fail
      refine (need_at HA33.out _).mono ?_
      rintro e w34 ⟨rfl,p34,b34,l34a,l34b,a34⟩
      have HA34:=hid a34
      clear a34 HA33
      go_wp2
      go_ret
      exact ⟨(m+1),p34,b34,(n31+1),rfl,by omega,by omega,by omega,by omega,HA34.out⟩
  ·skip
   go_wp2_with fail
   refine (need_at HAr.out _).mono ?_
   rintro e w35 ⟨rfl,p35,b35,l35a,l35b,a35⟩
   have HA35:=hid a35
   clear a35 HAr
   go_wp2
   go_ret
   exact ⟨m,p35,b35,k,rfl,by omega,by omega,by omega,by omega,HA35.out⟩
def TreeV (W:World) (B:Nat) (v:Value) (M:Nat) (nd':Nat→Nd):Prop:=(M=0∧v=.slice none 0 0)∨∃ g c,v=.slice (some ⟨g,0,none⟩) M c∧B≤g∧g < W.heap.size∧NodesAt W g M nd'
theorem own_slice {W:World} {B e size n:Nat} {v:Value} {xs:List Value} (h:W.ownsRow B e size v n xs):∃ ad c,v=.slice ad n c:=by
 obtain ⟨_,⟨rfl,rfl⟩ | ⟨g,cap,cur,rfl,_⟩⟩:=h
 ·exact ⟨none,0,rfl⟩
 ·exact ⟨_,cap,rfl⟩
theorem app_keep {wr w5:World} {ob n:Nat} {X Y:Obj} {v:Value} {xs:List Value} (hob:wr.heap[ob]?=some (.cells #[v] 25 (0,0))) (how:wr.ownsRow (ob+1) 35 5 v n xs) (g5:((wr.alloc X).alloc Y).grownBy w5 v.ownBlock):w5.heap[ob]?=some (.cells #[v] 25 (0,0)):=by
 have hl:=(Array.getElem?_eq_some_iff.1 hob).1
 rw [g5.block ob (by simp;omega) (fun e=>by have:=(own_lt how e.symm).1;omega),Below.heap_alloc _ _ _ (by simp;omega),Below.heap_alloc _ _ _ hl]
 exact hob
theorem app_end {w4 wr w5:World} {n m:Nat} {X Y:Obj} {v v5:Value} {xs ys:List Value} (hbw:Below w4.heap.size w4 wr) (hob:wr.heap[w4.heap.size]?=some (.cells #[v] 25 (0,0))) (how:wr.ownsRow (w4.heap.size+1) 35 5 v n xs) (o5:w5.ownsRow (w4.heap.size+1) 35 5 v5 m ys) (g5:((wr.alloc X).alloc Y).grownBy w5 v.ownBlock) :
  (w5.setCell ⟨w4.heap.size,0,none⟩ v5).heap[w4.heap.size]?=some (.cells #[v5] 25 (0,0))∧(w5.setCell ⟨w4.heap.size,0,none⟩ v5).ownsRow (w4.heap.size+1) 35 5 v5 m ys∧Below w4.heap.size w4 (w5.setCell ⟨w4.heap.size,0,none⟩ v5):=by
 have hs:=hbw.size
 refine ⟨one_set (app_keep hob how g5) v5,own_keepC o5 fun r hr=>Below.heap_setCell _ _ _ _ (by have:=(own_lt o5 hr).1;show r≠w4.heap.size;omega),?_⟩
 refine Below.setCell (p:=⟨w4.heap.size,0,none⟩) ?_ (Nat.le_refl _) _
 exact (((hbw.alloc hs X).alloc (by simp;omega) Y).grown g5 (by simp;omega) (fun k e=>by have:=(own_lt how e).1;omega))
set_option maxHeartbeats 4000000 in
theorem specRename_any (b N cap:Nat) (nd:Nat→Nd) (at_:Int) (s:ByteArray) (w:World) (hN:N≤1048576) (hb:b < w.heap.size) (hn:NodesAt w b N nd) (hx:∀ i,i < N→(nd i).text.size≤maxLen) (hs:s.size≤maxLen) :
  Calls Tryz.prog 6 #[.agg #[.slice (some ⟨b,0,none⟩) N cap],.int .i64 at_,.string s] w fun e w'=>(∃ v c M nd',e=.returned (.tuple #[.agg #[v],.int .i64 c])∧RenI nd N at_ s c M nd'∧TreeV w' w.heap.size v M nd')∧Below w.heap.size w w':=by
 have HN:=hid hn
 have HX:=hid hx
 have HS:=hid hs
 obtain ⟨i0,hi,hz0,hz1,hz2⟩:=info_parts info_ndC
 have HHI:=hid (And.intro hi (And.intro hz0 (And.intro hz1 hz2)))
 clear hi hz0 hz1 hz2 hn hx hs
 have HB0:=hid (Below.refl (w.heap.size+2) ((w.alloc (.cells #[.slice (some ⟨b,0,none⟩) N cap] 25)).alloc (.cells #[.slice none 0 0] 25)))
 have HCH:Hid (∀ W W',Below (w.heap.size+2) ((w.alloc (.cells #[.slice (some ⟨b,0,none⟩) N cap] 25)).alloc (.cells #[.slice none 0 0] 25)) W→Below W.heap.size W W'→Below (w.heap.size+2) ((w.alloc (.cells #[.slice (some ⟨b,0,none⟩) N cap] 25)).alloc (.cells #[.slice none 0 0] 25)) W'):=fun W W' h h2=>h.trans (h2.mono (ren_cells h).2.2.2)
 have HRET:Hid (∀ W,Below (w.heap.size+2) ((w.alloc (.cells #[.slice (some ⟨b,0,none⟩) N cap] 25)).alloc (.cells #[.slice none 0 0] 25)) W→Below w.heap.size w (W.setCell ⟨w.heap.size+1,0,none⟩ (.slice none 0 0))∧(W.setCell ⟨w.heap.size+1,0,none⟩ (.slice none 0 0)).cell? ⟨w.heap.size+1,0,none⟩=some (.slice none 0 0)):=fun W h=>⟨(ren_cells h).2.2.1.setCell (p:=⟨w.heap.size+1,0,none⟩) (Nat.le_succ _) _,(one_cell (one_set (ren_cells h).2.1 _)).1⟩
 go_enter Tryz.func6,Tryz.ntmps6
 go_wp2_with fail
 refine (specFits_any b N cap nd _ hN (by simp;omega) (HN.out.below (ren_cells HB0.out).2.2.1 hb) HX.out).mono ?_
 rintro e w1 ⟨⟨c,a,rfl,hc⟩,hb1⟩
 have HC:=hid hc
 have HB1:=hid (HB0.out.trans (hb1.mono (by simp)))
 obtain ⟨t1,r1,-,hz1⟩:=ren_cells HB1.out
 obtain ⟨r2,r3⟩:=one_cell r1
 clear hc hb1
 by_cases h0:c=0
 ·subst h0
  have HF0:=hid (faultI_code HC.out)
  rw [decide_eq_true rfl]
  by_cases hin:0≤at_∧at_ < (N:Int)
  ·obtain ⟨hl,hh⟩:=hin
   obtain ⟨a,rfl⟩:=Int.eq_ofNat_of_zero_le hl
   have haN:a < N:=by omega
   obtain ⟨a0,a1,a2,a3,a4⟩:=(HN.out.below (ren_cells HB1.out).2.2.1 hb) a haN
   clear a1 a2 a3 a4
   have hdn:(decide ((0:Int)≤(a:Int)) && decide ((a:Int)≤(N:Int) - 1))=true:=by simp;omega
   by_cases hlo:isLoc nd a=true
   ·have HLO:=hid hlo
    have hk:(nd a).kind=14∨(nd a).kind=16:=by simpa [isLoc] using hlo
    clear hlo
    by_cases h1:NameOk s
    ·have H1:=hid h1
     clear h1
     cases h2:isBuilt s with
     | true =>
      have H2:=hid h2
      clear h2
      rcases hk with hk | hk
      all_goals
       rw [hk] at a0
       go_wp2_with (first
        | (go_at_call 22;refine (l1In_dec _ _ _ _).mono ?_;rintro e w' ⟨rfl,hw⟩;have hw2:=hw.symm;clear hw;subst hw2;rw [hdn])
        | (go_at_call 23;refine (l1NameOk_any s _ HS.out).mono ?_;rintro e w2 ⟨hs2,hb2⟩;have hr:=hs2.pos H1.out;subst hr;have HB2:=hid (HCH.out _ _ HB1.out hb2);obtain ⟨t2,u1,-,hz2⟩:=ren_cells HB2.out;obtain ⟨u2,u3⟩:=one_cell u1;clear hs2 hb2)
        | (go_at_call 25;refine (l3Builts_any _).mono ?_;rintro e w3 ⟨rfl,hw3⟩;have HW3:=hid hw3;have HB3:=hid (HCH.out _ w3 HB2.out (by rw [hw3];exact (Below.refl _ _).alloc (Nat.le_refl _) _));obtain ⟨t3,v1,-,hz3⟩:=ren_cells HB3.out;obtain ⟨v2,v3⟩:=one_cell v1;clear hw3)
        | (go_at_call 24;refine (hasBuilt_any s _ _ (fun i hi=>by rw [HW3.out];exact built2_cell w2 i hi)).mono ?_;rintro e w' ⟨rfl,hw⟩;have hw2:=hw.symm;clear hw;subst hw2;rw [H2.out]))
       obtain ⟨q1,q2⟩:=HRET.out _ HB3.out
       have HQ1:=hid q1
       clear q1
       generalize w3.setCell ⟨w.heap.size+1,0,none⟩ (.slice none 0 0)=w5 at *
       refine bodyPost_ret (v:=.tuple #[.agg #[.slice none 0 0],.int .i64 3]) (by simp [results,Tryz.results6,go_sem,q2]) rfl ?_
       exact ⟨⟨_,3,0,nd,rfl,.inr ⟨HF0.out,.inr ⟨a,rfl,haN,HLO.out,.inl ⟨rfl,rfl,fun h=>by have:=h.2.1;rw [H2.out] at this;cases this⟩⟩⟩,.inl ⟨rfl,rfl⟩⟩,HQ1.out⟩
     | false =>
      have H2:=hid h2
      clear h2
      go_upto_region 3 with fail
      go_cut [40] (fun v wx=>v=.bool false∧wx=w1)
      case first =>
       rcases hk with hk | hk
       all_goals
        rw [hk] at a0
        go_wp2_with (go_at_call 22;refine (l1In_dec _ _ _ _).mono ?_;rintro e w' ⟨rfl,hw⟩;have hw2:=hw.symm;clear hw;subst hw2;rw [hdn])
        go_meet
        case rel=>exact ⟨rfl,rfl⟩
      case rest =>
       obtain ⟨rfl,hwc⟩:=hcut
       subst hwc
       clear a0 hk
       go_wp2_with (first
        | (go_at_call 23;refine (l1NameOk_any s _ HS.out).mono ?_;rintro e w2 ⟨hs2,hb2⟩;have hr:=hs2.pos H1.out;subst hr;have HB2:=hid (HCH.out _ _ HB1.out hb2);obtain ⟨t2,u1,-,hz2⟩:=ren_cells HB2.out;obtain ⟨u2,u3⟩:=one_cell u1;clear hs2 hb2)
        | (go_at_call 25;refine (l3Builts_any _).mono ?_;rintro e w3 ⟨rfl,hw3⟩;have HW3:=hid hw3;have HB3:=hid (HCH.out _ w3 HB2.out (by rw [hw3];exact (Below.refl _ _).alloc (Nat.le_refl _) _));obtain ⟨t3,v1,-,hz3⟩:=ren_cells HB3.out;obtain ⟨v2,v3⟩:=one_cell v1;clear hw3)
        | (go_at_call 24;refine (hasBuilt_any s _ _ (fun i hi=>by rw [HW3.out];exact built2_cell w2 i hi)).mono ?_;rintro e w' ⟨rfl,hw⟩;have hw2:=hw.symm;clear hw;subst hw2;rw [H2.out]))
       refine (specBinds_any b N cap nd _ hN (Nat.lt_of_lt_of_le hb (ren_cells HB3.out).2.2.1.size) (HN.out.below (ren_cells HB3.out).2.2.1 hb) HX.out).mono ?_
       rintro e w4 ⟨⟨ad,M,cb,bn,rfl,hi4,hp4,hM,hg4⟩,hb4⟩
       have hMN:M=N:=by
        rcases hp4 with ⟨_,h⟩ | ⟨h,_⟩
        ·exact absurd HF0.out h
        ·exact h
       subst hMN
       have HBI:=hid hp4
       have HB4:=hid (HCH.out _ _ HB3.out hb4)
       obtain ⟨gB,hgB,hlB,hcB⟩:∃ gB,ad=some ⟨gB,0,none⟩∧gB < w4.heap.size∧∀ i,i < M→w4.cell? ⟨gB,i,none⟩=some (.int .i64 (bn i)):=by
        rcases hi4 with h | ⟨g,cur,e,h1,h2⟩
        ·omega
        ·exact ⟨g,e,(Array.getElem?_eq_some_iff.1 h1).1,fun i hi=>(cell_hpC h1 i).trans (h2 i hi)⟩
       subst hgB
       have HCB:=hid hcB
       clear hi4 hp4 hg4 hb4 hcB t2 u1 u2 u3 t3 v1 v2 v3 t1 r1 r2 r3
       obtain ⟨t4,-,-,hz4⟩:=ren_cells HB4.out
       go_wp2
       go_loopw [10] (fun i wr=>∃ (j:Nat) (v:Value),j≤M∧i=.int .i64 j∧wr.heap[w4.heap.size]?=some (.cells #[v] 25 (0,0))∧wr.ownsRow (w4.heap.size+1) 35 5 v j (rowL (renN nd bn a s) j)∧Below w4.heap.size w4 wr∧∀ i,i < j→¬ (nd i).text=s) (fun i _=>M - (intOf i).toNat)
       case atStart=>exact ⟨0,_,Nat.zero_le _,rfl,heap_alloc_new w4 _,⟨rfl,.inl ⟨rfl,rfl⟩⟩,(Below.refl _ _).alloc (Nat.le_refl _) _,fun i h=>absurd h (Nat.not_lt_zero _)⟩
       case round =>
        obtain ⟨j,v,hj,rfl,hob,how,hbw,hnt⟩:=hrel
        have HOB:=hid hob
        have HOW:=hid how
        have HBW:=hid hbw
        have HNTJ:=hid hnt
        have HBC:=hid (HCH.out _ _ HB4.out hbw)
        obtain ⟨t5,r1,-,hz5⟩:=ren_cells HBC.out
        obtain ⟨r2,r3⟩:=one_cell r1
        have hws:=hbw.size
        clear t4 hob how hbw hnt
        by_cases hlt:j < M
        ·obtain ⟨a0,a1,a2,a3,a4⟩:=(HN.out.below (ren_cells HBC.out).2.2.1 hb) j hlt
         have c0:=(HBW.out.cell (p:=⟨gB,j,none⟩) hlB).trans (HCB.out j hlt)
         have e0:∀ O,(wr.alloc O).cell? ⟨gB,j,none⟩=some (.int .i64 (bn j)):=fun O=>(cell_alloc_lt wr O _ _ (World.block_lt_of_cell? wr _ c0)).trans c0
         have f0:∀ O,(wr.alloc O).cell? ⟨w4.heap.size,0,none⟩=some v:=fun O=>(cell_alloc_lt wr O _ _ (by have:=World.block_lt_of_cell? wr _ (one_cell HOB.out).1;exact this)).trans (one_cell HOB.out).1
         by_cases hte:(nd j).text=s
         ·have hq:((nd j).text.toList == s.toList)=true:=by rw [hte];simp
          have HTE:Hid (¬ FreshT nd M s):=fun h=>h.2.2 ⟨j,hlt,hte⟩
          have k1:∀ O,(wr.alloc O).heap[w.heap.size+1]?=some (.cells #[.slice none 0 0] 25 (0,0)):=fun O=>(Below.heap_alloc _ _ _ (by omega)).trans r1
          have k2:∀ O,(wr.alloc O).cell? ⟨w.heap.size+1,0,none⟩=some (.slice none 0 0):=fun O=>(one_cell (k1 O)).1
          have k3:∀ O,(wr.alloc O).frozen? ⟨w.heap.size+1,0,none⟩=false:=fun O=>(one_cell (k1 O)).2
          clear hte k1
          obtain ⟨q1,q2⟩:=HRET.out _ (HBC.out.alloc hz5 (.cells #[.int .i64 (nd j).kind,.int .i64 (nd j).op,.int .i64 (nd j).n,.string (nd j).text,.int .i64 (nd j).kids] 35))
          have HQ1:=hid q1
          clear q1
          go_wp2
          generalize World.setCell (wr.alloc (.cells #[.int .i64 (nd j).kind,.int .i64 (nd j).op,.int .i64 (nd j).n,.string (nd j).text,.int .i64 (nd j).kids] 35)) ⟨w.heap.size+1,0,none⟩ (.slice none 0 0)=w5 at *
          refine bodyPost_ret (v:=.tuple #[.agg #[.slice none 0 0],.int .i64 3]) (by simp [results,Tryz.results6,go_sem,q2]) rfl ?_
          exact ⟨⟨_,3,0,nd,rfl,.inr ⟨HF0.out,.inr ⟨a,rfl,haN,HLO.out,.inl ⟨rfl,rfl,HTE.out⟩⟩⟩,.inl ⟨rfl,rfl⟩⟩,HQ1.out⟩
         ·have hq:=str_ne hte
          have HNT:Hid (∀ i,i < j+1→¬ (nd i).text=s):=none_succ HNTJ.out hte
          clear hte
          by_cases hra:j=a
          ·have HR:Hid (ndL (renN nd bn a s j)=[.int .i64 (nd j).kind,.int .i64 (nd j).op,.int .i64 (nd j).n,.string s,.int .i64 (nd j).kids]):=by show _=_;unfold renN;rw [if_pos (.inl hra)];rfl
           have hja:((j:Int) == (a:Int))=true:=by simp [hra]
           clear hra
           go_wp2_with (at_builtin;refine wpList_append_own_at _ rfl (.tmp 85) (.tmp 87) 23 rfl (w4.heap.size+1) 35 i0 (.agg #[.int .i64 0,.int .i64 0,.int .i64 0,.string ⟨#[]⟩,.int .i64 0]) 5 48 Tryz.underlying23 HHI.out.1 HHI.out.2.1 HHI.out.2.2.1 HHI.out.2.2.2 rfl (by decide) v _ _ rfl (own_two (own_two HOW.out _) _) ⟨wr.heap.size+1,0,none⟩ 1 1 [.int .i64 (nd j).kind,.int .i64 (nd j).op,.int .i64 (nd j).n,.string s,.int .i64 (nd j).kids] rfl rfl (cell_five_new1 wr _ _ _ _ _ _ _) (by simp [Value.oneCell']) (by unfold maxLen;omega) (by omega) (by simp;omega) ?_;intro v5 w5 o5 g5 nn5 b5;obtain ⟨ad5,c5,hv5⟩:=own_slice o5;subst hv5;have O5:=hid o5;have G5:=hid g5;obtain ⟨x0,x1⟩:=one_cell (app_keep HOB.out HOW.out g5);clear o5 g5 nn5 b5)
           have HNX:=hid (app_end HBW.out HOB.out HOW.out O5.out G5.out)
           go_wp2
           go_roundw
           case rel=>exact ⟨j+1,_,by omega,by go_num,HNX.out.1,by rw [rowL_succ,HR.out];exact HNX.out.2.1,HNX.out.2.2,HNT.out⟩
           case measure=>simp [intOf];omega
          ·have hja:((j:Int) == (a:Int))=false:=by simp;omega
           by_cases hrb:bn j=(a:Int)
           ·have HR:Hid (ndL (renN nd bn a s j)=[.int .i64 (nd j).kind,.int .i64 (nd j).op,.int .i64 (nd j).n,.string s,.int .i64 (nd j).kids]):=by show _=_;unfold renN;rw [if_pos (.inr hrb)];rfl
            have hjb:(bn j == (a:Int))=true:=by simp [hrb]
            clear hra hrb
            go_wp2_with (at_builtin;refine wpList_append_own_at _ rfl (.tmp 85) (.tmp 87) 23 rfl (w4.heap.size+1) 35 i0 (.agg #[.int .i64 0,.int .i64 0,.int .i64 0,.string ⟨#[]⟩,.int .i64 0]) 5 48 Tryz.underlying23 HHI.out.1 HHI.out.2.1 HHI.out.2.2.1 HHI.out.2.2.2 rfl (by decide) v _ _ rfl (own_two (own_two HOW.out _) _) ⟨wr.heap.size+1,0,none⟩ 1 1 [.int .i64 (nd j).kind,.int .i64 (nd j).op,.int .i64 (nd j).n,.string s,.int .i64 (nd j).kids] rfl rfl (cell_five_new1 wr _ _ _ _ _ _ _) (by simp [Value.oneCell']) (by unfold maxLen;omega) (by omega) (by simp;omega) ?_;intro v5 w5 o5 g5 nn5 b5;obtain ⟨ad5,c5,hv5⟩:=own_slice o5;subst hv5;have O5:=hid o5;have G5:=hid g5;obtain ⟨x0,x1⟩:=one_cell (app_keep HOB.out HOW.out g5);clear o5 g5 nn5 b5)
            have HNX:=hid (app_end HBW.out HOB.out HOW.out O5.out G5.out)
            go_wp2
            go_roundw
            case rel=>exact ⟨j+1,_,by omega,by go_num,HNX.out.1,by rw [rowL_succ,HR.out];exact HNX.out.2.1,HNX.out.2.2,HNT.out⟩
            case measure=>simp [intOf];omega
           ·have HR:Hid (ndL (renN nd bn a s j)=[.int .i64 (nd j).kind,.int .i64 (nd j).op,.int .i64 (nd j).n,.string (nd j).text,.int .i64 (nd j).kids]):=by show _=_;unfold renN;rw [if_neg (by rintro (h | h);exact hra h;exact hrb h)];rfl
            have hjb:(bn j == (a:Int))=false:=by simp [hrb]
            clear hra hrb
            go_wp2_with (at_builtin;refine wpList_append_own_at _ rfl (.tmp 85) (.tmp 87) 23 rfl (w4.heap.size+1) 35 i0 (.agg #[.int .i64 0,.int .i64 0,.int .i64 0,.string ⟨#[]⟩,.int .i64 0]) 5 48 Tryz.underlying23 HHI.out.1 HHI.out.2.1 HHI.out.2.2.1 HHI.out.2.2.2 rfl (by decide) v _ _ rfl (own_two (own_two HOW.out _) _) ⟨wr.heap.size+1,0,none⟩ 1 1 [.int .i64 (nd j).kind,.int .i64 (nd j).op,.int .i64 (nd j).n,.string (nd j).text,.int .i64 (nd j).kids] rfl rfl (cell_five_new1 wr _ _ _ _ _ _ _) (by simp [Value.oneCell']) (by unfold maxLen;omega) (by omega) (by simp;omega) ?_;intro v5 w5 o5 g5 nn5 b5;obtain ⟨ad5,c5,hv5⟩:=own_slice o5;subst hv5;have O5:=hid o5;have G5:=hid g5;obtain ⟨x0,x1⟩:=one_cell (app_keep HOB.out HOW.out g5);clear o5 g5 nn5 b5)
            have HNX:=hid (app_end HBW.out HOB.out HOW.out O5.out G5.out)
            go_wp2
            go_roundw
            case rel=>exact ⟨j+1,_,by omega,by go_num,HNX.out.1,by rw [rowL_succ,HR.out];exact HNX.out.2.1,HNX.out.2.2,HNT.out⟩
            case measure=>simp [intOf];omega
        ·obtain rfl:j=M:=by omega
         obtain ⟨f0,-⟩:=one_cell HOB.out
         obtain ⟨g,cg,rfl,hg1,hg2,hno⟩:=nodes_of_own HOW.out (by omega)
         have HNO:=hid hno
         have q2:=(one_cell (one_set r1 (.slice (some ⟨g,0,none⟩) j cg))).1
         have HQ1:=hid ((ren_cells HBC.out).2.2.1.setCell (p:=⟨w.heap.size+1,0,none⟩) (Nat.le_succ _) (.slice (some ⟨g,0,none⟩) j cg))
         have HNQ:Hid (NodesAt (wr.setCell ⟨w.heap.size+1,0,none⟩ (.slice (some ⟨g,0,none⟩) j cg)) g j (renN nd bn a s)):=hno.set (by omega) _
         have HLT:Hid (g < (wr.setCell ⟨w.heap.size+1,0,none⟩ (.slice (some ⟨g,0,none⟩) j cg)).heap.size):=by rw [World.size_setCell];exact hg2
         clear hno
         go_wp2
         generalize wr.setCell ⟨w.heap.size+1,0,none⟩ (.slice (some ⟨g,0,none⟩) j cg)=w5 at *
         refine bodyPost_ret (v:=.tuple #[.agg #[.slice (some ⟨g,0,none⟩) j cg],.int .i64 0]) (by simp [results,Tryz.results6,go_sem,q2]) rfl ?_
         exact ⟨⟨_,0,j,renN nd bn a s,rfl,.inr ⟨HF0.out,.inr ⟨a,rfl,haN,HLO.out,.inr ⟨⟨H1.out,H2.out,fun ⟨i,hi,he⟩=>HNTJ.out i hi he⟩,rfl,rfl,bn,HBI.out,rfl⟩⟩⟩,.inr ⟨g,cg,rfl,by omega,HLT.out,HNQ.out⟩⟩,HQ1.out⟩
    ·have H1:=hid h1
     clear h1
     rcases hk with hk | hk
     all_goals
      rw [hk] at a0
      go_wp2_with (first
       | (go_at_call 22;refine (l1In_dec _ _ _ _).mono ?_;rintro e w' ⟨rfl,hw⟩;have hw2:=hw.symm;clear hw;subst hw2;rw [hdn])
       | (go_at_call 23;refine (l1NameOk_any s _ HS.out).mono ?_;rintro e w2 ⟨hs2,hb2⟩;have hr:=hs2.neg H1.out;subst hr;have HB2:=hid (HCH.out _ _ HB1.out hb2);obtain ⟨t2,u1,-,hz2⟩:=ren_cells HB2.out;obtain ⟨u2,u3⟩:=one_cell u1;clear hs2 hb2))
      obtain ⟨q1,q2⟩:=HRET.out _ HB2.out
      have HQ1:=hid q1
      clear q1
      generalize w2.setCell ⟨w.heap.size+1,0,none⟩ (.slice none 0 0)=w5 at *
      refine bodyPost_ret (v:=.tuple #[.agg #[.slice none 0 0],.int .i64 3]) (by simp [results,Tryz.results6,go_sem,q2]) rfl ?_
      exact ⟨⟨_,3,0,nd,rfl,.inr ⟨HF0.out,.inr ⟨a,rfl,haN,HLO.out,.inl ⟨rfl,rfl,fun h=>H1.out h.1⟩⟩⟩,.inl ⟨rfl,rfl⟩⟩,HQ1.out⟩
   ·have HNL:Hid (¬ LocAt nd N (a:Int)):=fun ⟨a',e,_,h⟩=>hlo (by have:a=a':=(by omega);rw [this];exact h)
    have h14:((nd a).kind != 14)=true:=by
     have:¬ (nd a).kind=14:=fun e=>hlo (by simp [isLoc,e])
     simpa using this
    have h16:((nd a).kind != 16)=true:=by
     have:¬ (nd a).kind=16:=fun e=>hlo (by simp [isLoc,e])
     simpa using this
    obtain ⟨q1,q2⟩:=HRET.out _ HB1.out
    have HQ1:=hid q1
    clear hlo q1
    go_wp2_with (go_at_call 22;refine (l1In_dec _ _ _ _).mono ?_;rintro e w' ⟨rfl,hw⟩;have hw2:=hw.symm;clear hw;subst hw2;rw [hdn])
    generalize w1.setCell ⟨w.heap.size+1,0,none⟩ (.slice none 0 0)=w5 at *
    refine bodyPost_ret (v:=.tuple #[.agg #[.slice none 0 0],.int .i64 2]) (by simp [results,Tryz.results6,go_sem,q2]) rfl ?_
    exact ⟨⟨_,2,0,nd,rfl,.inr ⟨HF0.out,.inl ⟨rfl,rfl,HNL.out⟩⟩,.inl ⟨rfl,rfl⟩⟩,HQ1.out⟩
  ·have HNL:Hid (¬ LocAt nd N at_):=fun ⟨a',e,h,_⟩=>hin (by omega)
   have hdn:(decide ((0:Int)≤at_) && decide (at_≤(N:Int) - 1))=false:=by
    cases hq:(decide ((0:Int)≤at_) && decide (at_≤(N:Int) - 1)) with
    | false=>rfl
    | true=>simp at hq;exact absurd ⟨hq.1,by omega⟩ hin
   obtain ⟨q1,q2⟩:=HRET.out _ HB1.out
   have HQ1:=hid q1
   clear hin q1
   go_wp2_with (go_at_call 22;refine (l1In_dec _ _ _ _).mono ?_;rintro e w' ⟨rfl,hw⟩;have hw2:=hw.symm;clear hw;subst hw2;rw [hdn])
   generalize w1.setCell ⟨w.heap.size+1,0,none⟩ (.slice none 0 0)=w5 at *
   refine bodyPost_ret (v:=.tuple #[.agg #[.slice none 0 0],.int .i64 2]) (by simp [results,Tryz.results6,go_sem,q2]) rfl ?_
   exact ⟨⟨_,2,0,nd,rfl,.inr ⟨HF0.out,.inl ⟨rfl,rfl,HNL.out⟩⟩,.inl ⟨rfl,rfl⟩⟩,HQ1.out⟩
 ·rw [decide_eq_false h0]
  have HNF:Hid (¬ FaultI nd N 0 0):=fun h=>h0 (HC.out.unique h).1
  obtain ⟨q1,q2⟩:=HRET.out _ HB1.out
  have HQ1:=hid q1
  clear q1
  go_wp2
  generalize w1.setCell ⟨w.heap.size+1,0,none⟩ (.slice none 0 0)=w5 at *
  refine bodyPost_ret (v:=.tuple #[.agg #[.slice none 0 0],.int .i64 1]) (by simp [results,Tryz.results6,go_sem,q2]) rfl ?_
  exact ⟨⟨_,1,0,nd,rfl,.inl ⟨rfl,rfl,HNF.out⟩,.inl ⟨rfl,rfl⟩⟩,HQ1.out⟩
end Go.Proofs.YthnohneaanphbaaGreatDoor
