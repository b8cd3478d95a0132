import Derived.Deep.DeepCutAuto
import Derived.Test.YtabbahpalemlhaaGreatDoorJ24
import Derived.Test.YtabbahpalemlhaaGreatDoorJ03
namespace Go.Proofs.YtabbahpalemlhaaGreatDoor
open Go.RowKit
set_option maxRecDepth 20000
theorem Ad.gr {s:Ds} {ov0:Value} {w0:World} {p n:Nat} {bad:Bool} {w:World} (h:Ad s ov0 w0 p bad n w) (G:Gr w):∃ ov,Dk s p bad n ov G.W∧Ad s ov0 w0 p bad n G.W:=by
 obtain ⟨ov,h1,h2⟩:=h
 exact ⟨ov,h1.next G.h,ov,h1.next G.h,h2.next G.h⟩
set_option maxHeartbeats 4000000 in
theorem named_at {s:Ds} {ov0:Value} {w0:World} {p n:Nat} {bad:Bool} {w:World} (h:Ad s ov0 w0 p bad n w) :
  Calls Tryz.prog 121 #[.pointer (some ⟨s.D,0,none⟩)] w fun e w'=>∃ v:Bool,e=.returned (.bool v)∧Ad s ov0 w0 p bad n w':=by
 have HG:=hid h.gr
 have hT:=h.pT.2
 have hpT:=h.pT.1
 have hd:=h.cells.1
 clear h
 have c2:∀ G:Gr w,G.W.cell? ⟨s.D,2,none⟩=some (.int .i64 p):=fun G=>by obtain ⟨ov,h1,_⟩:=HG.out G;exact h1.cells.2.2.1
 have hne:Nonempty (Gr w):=⟨⟨w,Below.refl _ _⟩⟩
 by_cases hp:p < s.T
 ·have hta:s.ta=some ⟨s.b,0,none⟩:=by obtain ⟨ov,h1,_⟩:=HG.out ⟨w,Below.refl _ _⟩;exact h1.tad.resolve_left (by omega)
  have c0:∀ G:Gr w,G.W.cell? ⟨s.D,0,none⟩=some (.slice (some ⟨s.b,0,none⟩) s.T s.tc):=fun G=>by obtain ⟨ov,h1,_⟩:=HG.out G;rw [← hta];exact h1.cells.1
  have HTK:Hid (∀ G:Gr w,Calls Tryz.prog 80 #[.pointer (some ⟨s.D,0,none⟩)] G.W fun e w'=>e=.returned (.agg #[.int .i64 (s.tk p).kind,.string (s.tk p).text,.int .i64 (s.tk p).n,.int .i64 (s.tk p).place])∧Below G.W.heap.size G.W w'):=fun G=>by obtain ⟨ov,h1,_⟩:=HG.out G;exact tok_in h1 hp
  obtain ⟨k,hk⟩:∃ k,(s.tk p).kind=k:=⟨_,rfl⟩
  rw [hk] at HTK
  clear hta hk hd
  have F0:=fun W=>tkKind k (s.tk p).n (s.tk p).place (s.tk p).text W
  by_cases h1:k=1
  ·subst h1
   by_cases h2:p+1 < s.T
   ·have h2i:(p:Int)+1 < (s.T:Int):=by omega
    have HTT:Hid (∀ G:Gr w,G.W.cell? ⟨s.b,(p+1) * 4,none⟩=some (.int .i64 (s.tk (p+1)).kind)∧G.W.cell? ⟨s.b,(p+1) * 4+1,none⟩=some (.string (s.tk (p+1)).text)):=fun G=>by obtain ⟨ov,h1,_⟩:=HG.out G;have:=h1.tks (p+1) h2;exact ⟨this.1,this.2.1⟩
    obtain ⟨k2,hk2⟩:∃ k,(s.tk (p+1)).kind=k:=⟨_,rfl⟩
    rw [hk2] at HTT
    clear hk2
    have t0:=fun G:Gr w=>(HTT.out G).1
    have t1:=fun G:Gr w=>(HTT.out G).2
    by_cases h5:k2=5
    ·subst h5
     go_enter Tryz.func121,Tryz.ntmps121
     go_wp2_with fail
     refine wp_region_gr (by kernel_rfl) (by kernel_rfl) ?_
     repeat (go_big_quiet_step (first | (go_at_call 80;refine Calls.gr_of (v:=.agg #[.int .i64 1,.string (s.tk p).text,.int .i64 (s.tk p).n,.int .i64 (s.tk p).place]) fun _=>?_;exact HTK.out _)))
     refine wpQuiet_nil ?_
     intro _ hw'
     obtain ⟨pw,rfl⟩:=hw'
     obtain ⟨ov9,_,ha⟩:=HG.out pw
     have HA9:=hid ha
     clear ha c2
     go_wp2
     go_ret
     exact ⟨_,rfl,HA9.out⟩
    ·have e5:(k2 == 5)=false:=by simpa using h5
     go_enter Tryz.func121,Tryz.ntmps121
     go_wp2_with fail
     refine wp_region_gr (by kernel_rfl) (by kernel_rfl) ?_
     repeat (go_big_quiet_step (first | (go_at_call 80;refine Calls.gr_of (v:=.agg #[.int .i64 1,.string (s.tk p).text,.int .i64 (s.tk p).n,.int .i64 (s.tk p).place]) fun _=>?_;exact HTK.out _)))
     refine wpQuiet_nil ?_
     intro _ hw'
     obtain ⟨pw,rfl⟩:=hw'
     obtain ⟨ov9,_,ha⟩:=HG.out pw
     have HA9:=hid ha
     clear ha c2
     go_wp2
     go_ret
     exact ⟨_,rfl,HA9.out⟩
   ·have e2:decide ((p:Int)+1 < (s.T:Int))=false:=by simp;omega
    go_enter Tryz.func121,Tryz.ntmps121
    go_wp2_with fail
    refine wp_region_gr (by kernel_rfl) (by kernel_rfl) ?_
    repeat (go_big_quiet_step (first | (go_at_call 80;refine Calls.gr_of (v:=.agg #[.int .i64 1,.string (s.tk p).text,.int .i64 (s.tk p).n,.int .i64 (s.tk p).place]) fun _=>?_;exact HTK.out _)))
    refine wpQuiet_nil ?_
    intro _ hw'
    obtain ⟨pw,rfl⟩:=hw'
    obtain ⟨ov9,_,ha⟩:=HG.out pw
    have HA9:=hid ha
    clear ha c2
    go_wp2
    go_ret
    exact ⟨_,rfl,HA9.out⟩
  ·have e1:(k == 1)=false:=by simpa using h1
   go_enter Tryz.func121,Tryz.ntmps121
   go_wp2_with fail
   refine wp_region_gr (by kernel_rfl) (by kernel_rfl) ?_
   repeat (go_big_quiet_step (first | (go_at_call 80;refine Calls.gr_of (v:=.agg #[.int .i64 k,.string (s.tk p).text,.int .i64 (s.tk p).n,.int .i64 (s.tk p).place]) fun _=>?_;exact HTK.out _)))
   refine wpQuiet_nil ?_
   intro _ hw'
   obtain ⟨pw,rfl⟩:=hw'
   obtain ⟨ov9,_,ha⟩:=HG.out pw
   have HA9:=hid ha
   clear ha c2
   go_wp2
   go_ret
   exact ⟨_,rfl,HA9.out⟩
 ·have HTK:Hid (∀ G:Gr w,Calls Tryz.prog 80 #[.pointer (some ⟨s.D,0,none⟩)] G.W fun e w'=>e=.returned (.agg #[.int .i64 0,.string ⟨#[]⟩,.int .i64 0,.int .i64 s.sz])∧Below G.W.heap.size G.W w'):=fun G=>by obtain ⟨ov,h1,_⟩:=HG.out G;exact tok_out h1 hp
  have F0:=fun W=>tkKind 0 0 s.sz ⟨#[]⟩ W
  go_enter Tryz.func121,Tryz.ntmps121
  go_wp2_with fail
  refine wp_region_gr (by kernel_rfl) (by kernel_rfl) ?_
  repeat (go_big_quiet_step (first | (go_at_call 80;refine Calls.gr_of (v:=.agg #[.int .i64 0,.string ⟨#[]⟩,.int .i64 0,.int .i64 s.sz]) fun _=>?_;exact HTK.out _)))
  refine wpQuiet_nil ?_
  intro _ hw'
  obtain ⟨pw,rfl⟩:=hw'
  obtain ⟨ov9,_,ha⟩:=HG.out pw
  have HA9:=hid ha
  clear ha c2
  go_wp2
  go_ret
  exact ⟨_,rfl,HA9.out⟩
def rk9 (op:Int):Int:=if op≤2 then op else if op≤9 then 4 else if op≤11 then 5 else 6
set_option maxHeartbeats 1000000 in
theorem l2Rank_any (op:Int) (w:World):Calls Tryz.prog 73 #[.int .i64 op] w fun e w'=>e=.returned (.int .i64 (rk9 op))∧w'=w:=by
 unfold rk9
 by_cases h2:op≤2
 ·rw [if_pos h2]
  go_enter Tryz.func73,Tryz.ntmps73
  go_wp2
  go_ret
  exact ⟨rfl,rfl⟩
 ·rw [if_neg h2]
  by_cases h9:op≤9
  ·rw [if_pos h9]
   go_enter Tryz.func73,Tryz.ntmps73
   go_wp2
   go_ret
   exact ⟨rfl,rfl⟩
  ·rw [if_neg h9]
   by_cases h11:op≤11
   ·rw [if_pos h11]
    go_enter Tryz.func73,Tryz.ntmps73
    go_wp2
    go_ret
    exact ⟨rfl,rfl⟩
   ·rw [if_neg h11]
    go_enter Tryz.func73,Tryz.ntmps73
    go_wp2
    go_ret
    exact ⟨rfl,rfl⟩
set_option maxHeartbeats 2000000 in
theorem l2Mark_any (j:Nat) (hj:j < 15) (w:World):Calls Tryz.prog 74 #[.int .i64 j] w fun e w'=>∃ t,e=.returned (.string t)∧Below w.heap.size w w':=by
 have HB:=hid (fun o=>(Below.refl w.heap.size w).alloc (Nat.le_refl _) o)
 obtain rfl | rfl | rfl | rfl | rfl | rfl | rfl | rfl | rfl | rfl | rfl | rfl | rfl | rfl | rfl:j=0∨j=1∨j=2∨j=3∨j=4∨j=5∨j=6∨j=7∨j=8∨j=9∨j=10∨j=11∨j=12∨j=13∨j=14:=by omega
 all_goals
  clear hj
  go_enter Tryz.func74,Tryz.ntmps74
  go_wp2
  go_ret
  exact ⟨_,rfl,HB.out _⟩
def OpE (s:Ds) (ov0:Value) (w0:World) (p:Nat) (bad:Bool) (n:Nat) (e:Ending) (w':World):Prop:=∃ r:Nat,e=.returned (.int .i64 r)∧r≤14∧(r≠0→p < s.T)∧Ad s ov0 w0 p bad n w'
set_option maxHeartbeats 4000000 in
theorem op_at {s:Ds} {ov0:Value} {w0:World} {p n:Nat} {bad:Bool} {w:World} (rank:Int) (h:Ad s ov0 w0 p bad n w) :
  Calls Tryz.prog 104 #[.pointer (some ⟨s.D,0,none⟩),.int .i64 rank] w (OpE s ov0 w0 p bad n):=by
 have HA0:=hid h
 clear h
 go_enter Tryz.func104,Tryz.ntmps104
 go_wp2
 go_loopw [5] (fun c wr=>∃ j:Nat,c=.int .i64 j∧1≤j∧j≤15∧Ad s ov0 w0 p bad n wr) (fun c _=>15 - (intOf c).toNat)
 case atStart=>exact ⟨1,rfl,by omega,by omega,HA0.out⟩
 case round =>
  obtain ⟨j,rfl,hj1,hj2,ad⟩:=hrel
  have HAr:=hid ad
  clear ad HA0
  by_cases hlt:j≤14
  ·have hlt2:(j:Int)≤14:=by omega
   go_wp2_with fail
   refine (l2Rank_any _ _).mono ?_
   rintro e w1 ⟨rfl,rfl⟩
   obtain ⟨rk,hrk⟩:∃ k,rk9 (j:Int)=k:=⟨_,rfl⟩
   rw [hrk]
   clear hrk
   by_cases hr:rk=rank
   ·subst hr
    go_wp2_with fail
    refine (l2Mark_any j (by omega) _).mono ?_
    rintro e w2 ⟨t2,rfl,hb2⟩
    have HA2:=hid (HAr.out.next hb2)
    clear hb2 HAr
    go_wp2_with fail
    refine (is_at HA2.out _).mono ?_
    rintro e w3 (⟨rfl,l3,a3⟩ | ⟨rfl,a3⟩)
    ·have HA3:=hid a3
     clear a3 HA2
     go_wp2
     go_ret
     exact ⟨j,rfl,by omega,fun _=>l3,HA3.out⟩
    ·have HA3:=hid a3
     clear a3 HA2
     go_wp2
     go_roundw
     case rel=>exact ⟨j+1,by go_num,by omega,by omega,HA3.out⟩
     case measure=>simp [intOf];omega
   ·have hrf:(rk == rank)=false:=by simpa using hr
    go_wp2
    go_roundw
    case rel=>exact ⟨j+1,by go_num,by omega,by omega,HAr.out⟩
    case measure=>simp [intOf];omega
  ·have hlt2:¬ (j:Int)≤14:=by omega
   go_wp2
   go_ret
   exact ⟨0,rfl,by omega,fun h=>absurd rfl h,HAr.out⟩
set_option maxHeartbeats 16000000 in
theorem record_at9 {s:Ds} {ov0:Value} {w0:World} {p n:Nat} {bad:Bool} {w:World} (hE:∀ q,p≤q→EOk9 s q) (h:Ad s ov0 w0 p bad n w) (hl:n+2 * s.T≤400000+2 * p) :
  Calls Tryz.prog 120 #[.pointer (some ⟨s.D,0,none⟩)] w (DE 1 s ov0 w0 p n):=by
 have HA0:=hid h
 have hT:=h.pT.2
 clear h
 go_enter Tryz.func120,Tryz.ntmps120
 go_wp2
 go_loopw [2] (fun c2 wr=>∃ m q k:Nat,∃ bb:Bool,c2=.int .i64 m∧p≤q∧n≤k∧k+2 * p≤n+2 * q∧m≤q - p∧Ad s ov0 w0 q bb k wr) (fun _ wr=>s.T - deskP s wr)
 case atStart=>exact ⟨0,p,n,_,rfl,by omega,by omega,by omega,by omega,HA0.out⟩
 case round =>
  obtain ⟨m,q,k,bb,rfl,lq,lk,lkq,lm,ad⟩:=hrel
  have HAr:=hid ad
  have HDP:=hid ad.deskP
  have hqT:=ad.pT.1
  clear ad HA0
  obtain ⟨_,_,c3,_⟩:=HAr.out.cells
  cases bb
  ·rcases Nat.eq_zero_or_pos m with rfl | hm1
   ·go_wp2_with fail
    refine (is_at HAr.out _).mono ?_
    rintro e w1 (⟨rfl,l1,a1⟩ | ⟨rfl,a1⟩)
    ·have HA1:=hid a1
     clear a1 HAr
     go_wp2_with fail
     refine (need_at HA1.out _).mono ?_
     rintro e w2 ⟨rfl,p2,b2,l2a,l2b,a2⟩
     have HA2:=hid a2
     clear a2 HA1
     go_wp2_with fail
     refine (put_at9 HA2.out ⟨9,0,0,⟨#[]⟩,((0:Nat):Int)⟩ (by show (⟨#[]⟩:ByteArray).size≤1000;decide) (by have:=HA2.out.pT;omega)).mono ?_
     rintro e w3 ⟨rfl,a3⟩
     have HA3:=hid a3
     clear a3 HA2
     go_wp2
     go_end0
     exact ⟨rfl,p2,b2,(k+1),by omega,by omega,by omega,HA3.out⟩
    ·have HA1:=hid a1
     clear a1 HAr
     go_wp2_with fail
     refine (tok_at HA1.out).mono ?_
     rintro e w4 ⟨kk,nn,qq,tt,rfl,hx,hk,a4⟩
     have HK:=hid hk
     have HX:=hid hx
     obtain ⟨ovb,kb,ab,bx⟩:=a4.box (.cells #[.int .i64 kk,.string tt,.int .i64 nn,.int .i64 qq] 30)
     have HKB:=hid kb
     have HAb:=hid ab
     have HBF:=hid bx
     clear hk hx a4 HA1 kb ab bx
     go_upto_region 3 with fail
     obtain ⟨xb,hxb⟩:∃ g,w4.heap.size=g:=⟨_,rfl⟩
     obtain ⟨Wb,hWb⟩:∃ W,w4.alloc (.cells #[.int .i64 kk,.string tt,.int .i64 nn,.int .i64 qq] 30)=W:=⟨_,rfl⟩
     rw [hWb] at HKB HAb HBF ⊢
     rw [hxb] at HBF ⊢
     clear hxb hWb
     obtain ⟨⟨x0,x1,x2,x3⟩,_,_,_,_⟩:=tbox (HBF.out _ _ _ _ HAb.out)
     have hkk:(kk=1∨kk=4)∨(kk≠1∧kk≠4):=by omega
     rcases hkk with h14 | ⟨h1,h4⟩
     ·have hp:=HK.out (by rcases h14 with h | h <;> rw [h] <;> decide)
      obtain ⟨_,d2,_,f2⟩:=HAb.out.cells
      have HAi:=hid (HAb.out.inc hp)
      have HBi:=hid (HBF.out _ _ _ _ HAi.out)
      rcases h14 with rfl | rfl
      ·go_wp2_with fail
       refine (need_at HAi.out _).mono ?_
       rintro e w5 ⟨rfl,p5,b5,l5a,l5b,a5⟩
       have HA5:=hid a5
       clear a5 HAi HAb d2 f2 x0 x1 x2 x3
       go_wp2_with fail
       refine (hE p5 (by omega) _ _ _ _ _ HA5.out (by have:=HA5.out.pT;omega)).mono ?_
       rintro e w6 ⟨rfl,p6,b6,n6,l6a,l6b,l6c,a6⟩
       have HA6:=hid a6
       clear a6 HA5
       obtain ⟨⟨_,x1,_,_⟩,_,_,_,_⟩:=tbox (HBF.out _ _ _ _ HA6.out)
       go_wp2_with fail
       refine (put_at9 HA6.out ⟨17,0,0,tt,1⟩ (HX.out) (by have:=HA6.out.pT;omega)).mono ?_
       rintro e w7 ⟨rfl,a7⟩
       have HA7:=hid a7
       clear a7 HA6
       clear x1
       go_wp2_with fail
       refine (take_at HA7.out _).mono ?_
       rintro e w8 (⟨rfl,l8,a8⟩ | ⟨rfl,a8⟩)
       ·have HA8:=hid a8
        clear a8 HA7
        have HAc:=hid (HA8.out.comp HKB.out)
        go_wp2
        go_roundw
        case rel=>exact ⟨0+1,(p6+1),(n6+1),false,by go_num,by omega,by omega,by omega,by omega,HAc.out⟩
        case measure=>rw [HAc.out.deskP,HDP.out];have:=HAc.out.pT;omega
       ·have HA8:=hid a8
        clear a8 HA7
        have HAc:=hid (HA8.out.comp HKB.out)
        go_wp2_with fail
        refine (need_at HAc.out _).mono ?_
        rintro e w9 ⟨rfl,p9,b9,l9a,l9b,a9⟩
        have HA9:=hid a9
        clear a9 HAc
        go_wp2_with fail
        refine (put_at9 HA9.out ⟨9,0,0,⟨#[]⟩,(((0+1):Nat):Int)⟩ (by show (⟨#[]⟩:ByteArray).size≤1000;decide) (by have:=HA9.out.pT;omega)).mono ?_
        rintro e w10 ⟨rfl,a10⟩
        have HA10:=hid a10
        clear a10 HA9
        go_wp2
        go_end0
        exact ⟨rfl,p9,b9,((n6+1)+1),by omega,by omega,by omega,HA10.out⟩
      ·go_wp2_with fail
       refine (need_at HAi.out _).mono ?_
       rintro e w11 ⟨rfl,p11,b11,l11a,l11b,a11⟩
       have HA11:=hid a11
       clear a11 HAi HAb d2 f2 x0 x1 x2 x3
       go_wp2_with fail
       refine (hE p11 (by omega) _ _ _ _ _ HA11.out (by have:=HA11.out.pT;omega)).mono ?_
       rintro e w12 ⟨rfl,p12,b12,n12,l12a,l12b,l12c,a12⟩
       have HA12:=hid a12
       clear a12 HA11
       obtain ⟨⟨_,x1,_,_⟩,_,_,_,_⟩:=tbox (HBF.out _ _ _ _ HA12.out)
       go_wp2_with fail
       refine (put_at9 HA12.out ⟨17,0,0,tt,1⟩ (HX.out) (by have:=HA12.out.pT;omega)).mono ?_
       rintro e w13 ⟨rfl,a13⟩
       have HA13:=hid a13
       clear a13 HA12
       clear x1
       go_wp2_with fail
       refine (take_at HA13.out _).mono ?_
       rintro e w14 (⟨rfl,l14,a14⟩ | ⟨rfl,a14⟩)
       ·have HA14:=hid a14
        clear a14 HA13
        have HAc:=hid (HA14.out.comp HKB.out)
        go_wp2
        go_roundw
        case rel=>exact ⟨0+1,(p12+1),(n12+1),false,by go_num,by omega,by omega,by omega,by omega,HAc.out⟩
        case measure=>rw [HAc.out.deskP,HDP.out];have:=HAc.out.pT;omega
       ·have HA14:=hid a14
        clear a14 HA13
        have HAc:=hid (HA14.out.comp HKB.out)
        go_wp2_with fail
        refine (need_at HAc.out _).mono ?_
        rintro e w15 ⟨rfl,p15,b15,l15a,l15b,a15⟩
        have HA15:=hid a15
        clear a15 HAc
        go_wp2_with fail
        refine (put_at9 HA15.out ⟨9,0,0,⟨#[]⟩,(((0+1):Nat):Int)⟩ (by show (⟨#[]⟩:ByteArray).size≤1000;decide) (by have:=HA15.out.pT;omega)).mono ?_
        rintro e w16 ⟨rfl,a16⟩
        have HA16:=hid a16
        clear a16 HA15
        go_wp2
        go_end0
        exact ⟨rfl,p15,b15,((n12+1)+1),by omega,by omega,by omega,HA16.out⟩
     ·have e1:(kk != 1)=true:=by simpa using h1
      have e4:(kk != 4)=true:=by simpa using h4
      go_wp2_with fail
      refine (stop_at HAb.out).mono ?_
      rintro e w17 ⟨rfl,a17⟩
      have HA17:=hid a17
      clear a17 HAb
      go_wp2
      exact bodyPost_ret (results_none rfl _ _ _) rfl ⟨rfl,q,true,k,by omega,by omega,by omega,HA17.out.comp HKB.out⟩
   ·have hm2:(0:Int) < (m:Int):=by omega
    go_wp2_with fail
    refine (tok_at HAr.out).mono ?_
    rintro e w18 ⟨kk,nn,qq,tt,rfl,hx,hk,a18⟩
    have HK:=hid hk
    have HX:=hid hx
    obtain ⟨ovb,kb,ab,bx⟩:=a18.box (.cells #[.int .i64 kk,.string tt,.int .i64 nn,.int .i64 qq] 30)
    have HKB:=hid kb
    have HAb:=hid ab
    have HBF:=hid bx
    clear hk hx a18 HAr kb ab bx
    go_upto_region 3 with fail
    obtain ⟨xb,hxb⟩:∃ g,w18.heap.size=g:=⟨_,rfl⟩
    obtain ⟨Wb,hWb⟩:∃ W,w18.alloc (.cells #[.int .i64 kk,.string tt,.int .i64 nn,.int .i64 qq] 30)=W:=⟨_,rfl⟩
    rw [hWb] at HKB HAb HBF ⊢
    rw [hxb] at HBF ⊢
    clear hxb hWb
    obtain ⟨⟨x0,x1,x2,x3⟩,_,_,_,_⟩:=tbox (HBF.out _ _ _ _ HAb.out)
    have hkk:(kk=1∨kk=4)∨(kk≠1∧kk≠4):=by omega
    rcases hkk with h14 | ⟨h1,h4⟩
    ·have hp:=HK.out (by rcases h14 with h | h <;> rw [h] <;> decide)
     obtain ⟨_,d2,_,f2⟩:=HAb.out.cells
     have HAi:=hid (HAb.out.inc hp)
     have HBi:=hid (HBF.out _ _ _ _ HAi.out)
     rcases h14 with rfl | rfl
     ·go_wp2_with fail
      refine (need_at HAi.out _).mono ?_
      rintro e w19 ⟨rfl,p19,b19,l19a,l19b,a19⟩
      have HA19:=hid a19
      clear a19 HAi HAb d2 f2 x0 x1 x2 x3
      go_wp2_with fail
      refine (hE p19 (by omega) _ _ _ _ _ HA19.out (by have:=HA19.out.pT;omega)).mono ?_
      rintro e w20 ⟨rfl,p20,b20,n20,l20a,l20b,l20c,a20⟩
      have HA20:=hid a20
      clear a20 HA19
      obtain ⟨⟨_,x1,_,_⟩,_,_,_,_⟩:=tbox (HBF.out _ _ _ _ HA20.out)
      go_wp2_with fail
      refine (put_at9 HA20.out ⟨17,0,0,tt,1⟩ (HX.out) (by have:=HA20.out.pT;omega)).mono ?_
      rintro e w21 ⟨rfl,a21⟩
      have HA21:=hid a21
      clear a21 HA20
      clear x1
      go_wp2_with fail
      refine (take_at HA21.out _).mono ?_
      rintro e w22 (⟨rfl,l22,a22⟩ | ⟨rfl,a22⟩)
      ·have HA22:=hid a22
       clear a22 HA21
       have HAc:=hid (HA22.out.comp HKB.out)
       go_wp2
       go_roundw
       case rel=>exact ⟨m+1,(p20+1),(n20+1),false,by go_num,by omega,by omega,by omega,by omega,HAc.out⟩
       case measure=>rw [HAc.out.deskP,HDP.out];have:=HAc.out.pT;omega
      ·have HA22:=hid a22
       clear a22 HA21
       have HAc:=hid (HA22.out.comp HKB.out)
       go_wp2_with fail
       refine (need_at HAc.out _).mono ?_
       rintro e w23 ⟨rfl,p23,b23,l23a,l23b,a23⟩
       have HA23:=hid a23
       clear a23 HAc
       go_wp2_with fail
       refine (put_at9 HA23.out ⟨9,0,0,⟨#[]⟩,(((m+1):Nat):Int)⟩ (by show (⟨#[]⟩:ByteArray).size≤1000;decide) (by have:=HA23.out.pT;omega)).mono ?_
       rintro e w24 ⟨rfl,a24⟩
       have HA24:=hid a24
       clear a24 HA23
       go_wp2
       go_end0
       exact ⟨rfl,p23,b23,((n20+1)+1),by omega,by omega,by omega,HA24.out⟩
     ·go_wp2_with fail
      refine (need_at HAi.out _).mono ?_
      rintro e w25 ⟨rfl,p25,b25,l25a,l25b,a25⟩
      have HA25:=hid a25
      clear a25 HAi HAb d2 f2 x0 x1 x2 x3
      go_wp2_with fail
      refine (hE p25 (by omega) _ _ _ _ _ HA25.out (by have:=HA25.out.pT;omega)).mono ?_
      rintro e w26 ⟨rfl,p26,b26,n26,l26a,l26b,l26c,a26⟩
      have HA26:=hid a26
      clear a26 HA25
      obtain ⟨⟨_,x1,_,_⟩,_,_,_,_⟩:=tbox (HBF.out _ _ _ _ HA26.out)
      go_wp2_with fail
      refine (put_at9 HA26.out ⟨17,0,0,tt,1⟩ (HX.out) (by have:=HA26.out.pT;omega)).mono ?_
      rintro e w27 ⟨rfl,a27⟩
      have HA27:=hid a27
      clear a27 HA26
      clear x1
      go_wp2_with fail
      refine (take_at HA27.out _).mono ?_
      rintro e w28 (⟨rfl,l28,a28⟩ | ⟨rfl,a28⟩)
      ·have HA28:=hid a28
       clear a28 HA27
       have HAc:=hid (HA28.out.comp HKB.out)
       go_wp2
       go_roundw
       case rel=>exact ⟨m+1,(p26+1),(n26+1),false,by go_num,by omega,by omega,by omega,by omega,HAc.out⟩
       case measure=>rw [HAc.out.deskP,HDP.out];have:=HAc.out.pT;omega
      ·have HA28:=hid a28
       clear a28 HA27
       have HAc:=hid (HA28.out.comp HKB.out)
       go_wp2_with fail
       refine (need_at HAc.out _).mono ?_
       rintro e w29 ⟨rfl,p29,b29,l29a,l29b,a29⟩
       have HA29:=hid a29
       clear a29 HAc
       go_wp2_with fail
       refine (put_at9 HA29.out ⟨9,0,0,⟨#[]⟩,(((m+1):Nat):Int)⟩ (by show (⟨#[]⟩:ByteArray).size≤1000;decide) (by have:=HA29.out.pT;omega)).mono ?_
       rintro e w30 ⟨rfl,a30⟩
       have HA30:=hid a30
       clear a30 HA29
       go_wp2
       go_end0
       exact ⟨rfl,p29,b29,((n26+1)+1),by omega,by omega,by omega,HA30.out⟩
    ·have e1:(kk != 1)=true:=by simpa using h1
     have e4:(kk != 4)=true:=by simpa using h4
     go_wp2_with fail
     refine (stop_at HAb.out).mono ?_
     rintro e w31 ⟨rfl,a31⟩
     have HA31:=hid a31
     clear a31 HAb
     go_wp2
     exact bodyPost_ret (results_none rfl _ _ _) rfl ⟨rfl,q,true,k,by omega,by omega,by omega,HA31.out.comp HKB.out⟩
  ·skip
   go_wp2_with fail
   refine (need_at HAr.out _).mono ?_
   rintro e w32 ⟨rfl,p32,b32,l32a,l32b,a32⟩
   have HA32:=hid a32
   clear a32 HAr
   go_wp2_with fail
   refine (put_at9 HA32.out ⟨9,0,0,⟨#[]⟩,((m:Nat):Int)⟩ (by show (⟨#[]⟩:ByteArray).size≤1000;decide) (by have:=HA32.out.pT;omega)).mono ?_
   rintro e w33 ⟨rfl,a33⟩
   have HA33:=hid a33
   clear a33 HA32
   go_wp2
   go_end0
   exact ⟨rfl,p32,b32,(k+1),by omega,by omega,by omega,HA33.out⟩
end Go.Proofs.YtabbahpalemlhaaGreatDoor
