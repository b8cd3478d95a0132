import Derived.Test.YtbkmglknbflkhaaGreatDoorJ45
import Derived.Test.YtbkmglknbflkhaaGreatDoorJ31
import Derived.Test.YtbkmglknbflkhaaGreatDoorJ25
import Derived.Test.YtbkmglknbflkhaaGreatDoorJ46
import Derived.Test.YtbkmglknbflkhaaGreatDoorJ17
import Derived.Test.YtbkmglknbflkhaaGreatDoorJ05
import Derived.Test.YtbkmglknbflkhaaGreatDoorJ48
import Derived.Test.YtbkmglknbflkhaaGreatDoorJ50
namespace Go.Proofs.YtbkmglknbflkhaaGreatDoor.M
open Go.RowKit
open Go.Proofs.YtbkmglknbflkhaaGreatDoor.J (Says says_t says_f JobOk)
open Go.Proofs.YtbkmglknbflkhaaGreatDoor.R (hid)
set_option maxRecDepth 20000
theorem okfl_of {l:List R.Fl} (h:P.LowF l):R.OkFlS l:=⟨by have:=h.1;unfold maxLen;omega,fun i hi=>⟨by have:=(h.2 i hi).1;unfold maxLen;omega,by have:=(h.2 i hi).2;unfold maxLen;omega⟩⟩
theorem chk0 {fns:List C.Fn} {k i:Nat} (h:C.Chk fns 0 k i):C.Chk fns 0 0 0:=by
 cases h with
 | plain _ _ _ h h0=>exact absurd rfl h0
 | ok h h1=>exact .ok h h1
theorem ok_t {fns:List C.Fn} {w:World} {cv:Value} (h1:C.FnsRow w cv fns) (hC:C.CodeS fns) (hk:C.Chk fns 0 0 0):Calls Tryz.prog 26 #[.agg #[cv]] w fun e w'=>e=.returned (.bool true)∧Below w.heap.size w w' :=
 (C.l16Ok_any h1 hC).mono fun e w' ⟨c,k,i,e1,hck,hb⟩=>⟨by rw [e1,decide_eq_true (by have:=(hck.uniq hk).1;omega)],hb⟩
theorem ok_f {fns:List C.Fn} {w:World} {cv:Value} (h1:C.FnsRow w cv fns) (hC:C.CodeS fns) (hk:¬ C.Chk fns 0 0 0):Calls Tryz.prog 26 #[.agg #[cv]] w fun e w'=>e=.returned (.bool false)∧Below w.heap.size w w' :=
 (C.l16Ok_any h1 hC).mono fun e w' ⟨c,k,i,e1,hck,hb⟩=>by
  have h9:¬ c=0:=fun h=>by
   subst h
   exact hk (chk0 hck)
  exact ⟨by rw [e1,decide_eq_false h9],hb⟩
theorem few_codes {x:R.Mc} (h:FramesOk x):1≤x.codes.length:=by
 obtain ⟨⟨h1,_⟩,_,h3,_⟩:=h
 have:=(h3 0 (by omega)).2.1
 omega
theorem some_codes {x:R.Mc} (h:JoOk x):x.codes.length≤40:=by
 have h1:=h.1
 have h2:=h.2.1.1
 omega
set_option maxHeartbeats 40000000 in
theorem specValidM_any (x:R.Mc) {v0 v1 v2 v3 v4 v5:Value} {B:Nat} (w:World) (h:MK B w x v0 v1 v2 v3 v4 v5) (hx:MLow x) (hok:R.OkCdS x.codes)
  (hfr:∀ W,MK B W x v0 v1 v2 v3 v4 v5→WtOk x→CodesOk x→Calls Tryz.prog 27 #[mval x v0 v1 v2 v3 v4 v5] W fun e w'=>Says e (FramesOk x)∧Below W.heap.size W w') :
  Calls Tryz.prog 6 #[mval x v0 v1 v2 v3 v4 v5] w fun e w'=>Says e (MaOk x)∧Below w.heap.size w w':=by
 have HK:=hid h
 obtain ⟨gc,rfl⟩:=h.k0.sl
 obtain ⟨ga,rfl⟩:=h.k1.sl
 obtain ⟨go,rfl⟩:=h.k2.sl
 obtain ⟨gf,rfl⟩:=h.k3.sl
 obtain ⟨gl,rfl⟩:=h.k4.sl
 obtain ⟨gs,rfl⟩:=h.k5.sl
 have HL:=hid hx
 have HOK:=hid hok
 have HFR:=hid hfr
 clear h hx hok hfr
 go_enter Tryz.func6,Tryz.ntmps6
 go_upto_region 1 with fail
 have HX:=hid (MX.start w x (.slice (some ⟨gc,0,none⟩) x.codes.length x.codes.length) (.slice (some ⟨ga,0,none⟩) x.args.length x.args.length) (.slice (some ⟨go,0,none⟩) x.outs.length x.outs.length) (.slice (some ⟨gf,0,none⟩) x.frames.length x.frames.length) (.slice (some ⟨gl,0,none⟩) x.files.length x.files.length) (.slice (some ⟨gs,0,none⟩) x.said.length x.said.length))
 obtain ⟨W1,hW1⟩:∃ W,w.alloc (.cells #[.slice (some ⟨gc,0,none⟩) x.codes.length x.codes.length,.slice (some ⟨ga,0,none⟩) x.args.length x.args.length,.slice (some ⟨go,0,none⟩) x.outs.length x.outs.length,.slice (some ⟨gf,0,none⟩) x.frames.length x.frames.length,.int .i64 x.steps,.int .i64 x.looks,.int .i64 x.kind,.string x.name,.string x.hold,.bool x.over,.int .i64 x.fin,.string x.text,.slice (some ⟨gl,0,none⟩) x.files.length x.files.length,.slice (some ⟨gs,0,none⟩) x.said.length x.said.length] 34)=W:=⟨_,rfl⟩
 rw [hW1] at HX ⊢
 clear hW1
 have c12:=HX.out.c12
 by_cases q1:P.PlOk x.files
 ·have HFI:=hid (says_tr (P.specFiles_any x.files W1 (okfl_of HL.out.files) HL.out.files.1 (HK.out.next HX.out.lo).k4) q1)
  have Q1:=hid q1
  clear q1
  by_cases q2:TxOk 50 x.said
  ·have HTX:Hid (∀ W,MX w x (.slice (some ⟨gc,0,none⟩) x.codes.length x.codes.length) (.slice (some ⟨ga,0,none⟩) x.args.length x.args.length) (.slice (some ⟨go,0,none⟩) x.outs.length x.outs.length) (.slice (some ⟨gf,0,none⟩) x.frames.length x.frames.length) (.slice (some ⟨gl,0,none⟩) x.files.length x.files.length) (.slice (some ⟨gs,0,none⟩) x.said.length x.said.length) W→Calls Tryz.prog 21 #[.slice (some ⟨gs,0,none⟩) x.said.length x.said.length,.int .i64 50] W fun e w'=>e=.returned (.bool true)∧w'=W):=hid fun W hW=>(specTexts_any x.said 50 W (by decide) HL.out.said (HK.out.next hW.lo).k5).mono fun _ _ h=>⟨h.1.pos q2,h.2⟩
   have Q2:=hid q2
   clear q2
   obtain ⟨st,hst⟩:∃ z,x.steps=z:=⟨_,rfl⟩
   have HST:=hid hst
   clear hst
   by_cases q3:0≤st∧st≤4000
   ·have HIS:Hid (∀ W,Calls Tryz.prog 22 #[.int .i64 st,.int .i64 0,.int .i64 4000] W fun e w'=>e=.returned (.bool true)∧w'=W):=hid fun W=>(C.l16In_any st 0 4000 W).mono fun _ _ h=>⟨by rw [h.1,inB_t (by omega)],h.2⟩
    have Q3:Hid (0≤x.steps∧x.steps≤4000):=hid (by rw [HST.out];exact q3)
    clear q3
    go_upto_region 3 with (first | (go_at_call 20;refine HFI.out.mono ?_;rintro e w2 ⟨rfl,hb2⟩;have HX2:=hid (HX.out.next hb2);clear hb2 c12;have c13:=HX2.out.c13;have c4:=HX2.out.c4;rw [HST.out] at c4) | (go_at_call 21;refine (HTX.out _ HX2.out).mono ?_;rintro e w3 ⟨rfl,hw⟩;have hw2:=hw.symm;clear hw;subst hw2) | (go_at_call_of 22 (Value.int IntKind.i64 st);refine (HIS.out _).mono ?_;rintro e w9 ⟨rfl,hw⟩;have hw2:=hw.symm;clear hw;subst hw2))
    clear c13 c4
    have c9:=HX2.out.c9
    obtain ⟨ov,hov⟩:∃ z,x.over=z:=⟨_,rfl⟩
    have HOV:=hid hov
    rw [hov] at c9
    clear hov
    cases ov
    ·have HNO:Hid (¬ (JoOk x∧WtOk x∧CodesOk x∧FramesOk x)→¬ MaOk x):=hid fun hn h=>hn (h.2.2.2.2 HOV.out)
     go_upto_region 5 with fail
     clear c9
     have d0:=HX2.out.c0
     have d1:=HX2.out.c1
     have d2:=HX2.out.c2
     have d3:=HX2.out.c3
     have d4:=HX2.out.c4
     have d5:=HX2.out.c5
     have d6:=HX2.out.c6
     have d7:=HX2.out.c7
     have d8:=HX2.out.c8
     have d9:=HX2.out.c9
     have d10:=HX2.out.c10
     have d11:=HX2.out.c11
     have d12:=HX2.out.c12
     have d13:=HX2.out.c13
     by_cases r0:1≤x.codes.length∧x.codes.length≤40
     ·have HIC:Hid (∀ W,Calls Tryz.prog 22 #[.int .i64 (x.codes.length:Int),.int .i64 1,.int .i64 40] W fun e w'=>e=.returned (.bool true)∧w'=W):=hid fun W=>(C.l16In_any (x.codes.length:Int) 1 40 W).mono fun _ _ h=>⟨by rw [h.1,inB_t (by omega)],h.2⟩
      have R0:=hid r0
      clear r0
      by_cases r1:x.args.length=x.codes.length
      ·have f1:((x.args.length:Int) != (x.codes.length:Int))=false:=by simp;omega
       have R1:=hid r1
       clear r1
       by_cases r2:TxOk 40 x.args
       ·have HTA:Hid (∀ W,MX w x (.slice (some ⟨gc,0,none⟩) x.codes.length x.codes.length) (.slice (some ⟨ga,0,none⟩) x.args.length x.args.length) (.slice (some ⟨go,0,none⟩) x.outs.length x.outs.length) (.slice (some ⟨gf,0,none⟩) x.frames.length x.frames.length) (.slice (some ⟨gl,0,none⟩) x.files.length x.files.length) (.slice (some ⟨gs,0,none⟩) x.said.length x.said.length) W→Calls Tryz.prog 21 #[.slice (some ⟨ga,0,none⟩) x.args.length x.args.length,.int .i64 40] W fun e w'=>e=.returned (.bool true)∧w'=W):=hid fun W hW=>(specTexts_any x.args 40 W (by decide) HL.out.args (HK.out.next hW.lo).k1).mono fun _ _ h=>⟨h.1.pos r2,h.2⟩
        have R2:=hid r2
        clear r2
        have hgo:go < w2.heap.size:=by
         obtain ⟨g9,e9,_,cur,h9,_⟩:=(HK.out.next HX2.out.lo).k2
         injection e9 with ea _ _
         injection ea with eb
         injection eb with ec
         subst ec
         exact C.lt_hp h9
        have HJB:=hid (J.specJob_any ⟨#[]⟩ go x.outs.length x.outs.length (fun i=>x.outs.getD i ⟨#[]⟩) w2 (by decide) HL.out.outs.1 hgo (texts_at (HK.out.next HX2.out.lo).k2) (fun i hi=>by have:=HL.out.outs.2 i hi;unfold maxLen;omega))
        clear hgo
        by_cases r3:JobOk ⟨#[]⟩ x.outs.length (fun i=>x.outs.getD i ⟨#[]⟩)
        ·have HJ:=hid (says_tr HJB.out r3)
         have R3:=hid r3
         clear r3 HJB
         by_cases r4:0≤x.looks∧x.looks≤100
         ·have HIL:Hid (∀ W,Calls Tryz.prog 22 #[.int .i64 x.looks,.int .i64 0,.int .i64 100] W fun e w'=>e=.returned (.bool true)∧w'=W):=hid fun W=>(C.l16In_any x.looks 0 100 W).mono fun _ _ h=>⟨by rw [h.1,inB_t (by omega)],h.2⟩
          have R4:=hid r4
          clear r4
          by_cases r5:x.fin=0
          ·have f5:(x.fin != 0)=false:=by simpa using r5
           have R5:=hid r5
           clear r5
           by_cases r6:x.text.size=0
           ·have f6:x.text.toList.isEmpty=true:=by rw [J.isEmpty_iff];simpa using r6
            have R6:=hid r6
            clear r6
            by_cases r7:WtOk x
            ·have HWW:=hid fun W (_:MX w x (.slice (some ⟨gc,0,none⟩) x.codes.length x.codes.length) (.slice (some ⟨ga,0,none⟩) x.args.length x.args.length) (.slice (some ⟨go,0,none⟩) x.outs.length x.outs.length) (.slice (some ⟨gf,0,none⟩) x.frames.length x.frames.length) (.slice (some ⟨gl,0,none⟩) x.files.length x.files.length) (.slice (some ⟨gs,0,none⟩) x.said.length x.said.length) W)=>says_tr (specWait_any x (v0:=(.slice (some ⟨gc,0,none⟩) x.codes.length x.codes.length)) (v1:=(.slice (some ⟨ga,0,none⟩) x.args.length x.args.length)) (v2:=(.slice (some ⟨go,0,none⟩) x.outs.length x.outs.length)) (v3:=(.slice (some ⟨gf,0,none⟩) x.frames.length x.frames.length)) (v4:=(.slice (some ⟨gl,0,none⟩) x.files.length x.files.length)) (v5:=(.slice (some ⟨gs,0,none⟩) x.said.length x.said.length)) W HL.out.name HL.out.hold) r7
             have R7:=hid r7
             clear r7
             go_upto_region 7 with (first | (go_at_call_of 22 (Value.int IntKind.i64 (x.codes.length:Int));refine (HIC.out _).mono ?_;rintro e w9 ⟨rfl,hw⟩;have hw2:=hw.symm;clear hw;subst hw2) | (go_at_call 21;refine (HTA.out _ HX2.out).mono ?_;rintro e w3 ⟨rfl,hw⟩;have hw2:=hw.symm;clear hw;subst hw2) | (go_at_call 24;refine HJ.out.mono ?_;rintro e w4 ⟨rfl,hb4⟩;have HX4:=hid (HX2.out.next hb4);clear hb4 d0 d1 d2 d3 d4 d5 d6 d7 d8 d9 d10 d11 d12 d13;have d0:=HX4.out.c0;have d1:=HX4.out.c1;have d2:=HX4.out.c2;have d3:=HX4.out.c3;have d4:=HX4.out.c4;have d5:=HX4.out.c5;have d6:=HX4.out.c6;have d7:=HX4.out.c7;have d8:=HX4.out.c8;have d9:=HX4.out.c9;have d10:=HX4.out.c10;have d11:=HX4.out.c11;have d12:=HX4.out.c12;have d13:=HX4.out.c13) | (go_at_call_of 22 (Value.int IntKind.i64 x.looks);refine (HIL.out _).mono ?_;rintro e w9 ⟨rfl,hw⟩;have hw2:=hw.symm;clear hw;subst hw2) | (go_at_call 25;refine (HWW.out _ HX4.out).mono ?_;rintro e w5 ⟨rfl,hb5⟩;have HX5:=hid (HX4.out.next hb5);clear hb5 d0 d1 d2 d3 d4 d5 d6 d7 d8 d9 d10 d11 d12 d13))
             have hol:=HL.out.outs.1
             have hfl:=HL.out.files.1
             have hcl:=HL.out.lo.1.1
             go_wp2_with fail
             go_loopw [3] (fun i wr=>∃ k:Nat,k≤x.files.length∧i=.int .i64 k∧MX w x (.slice (some ⟨gc,0,none⟩) x.codes.length x.codes.length) (.slice (some ⟨ga,0,none⟩) x.args.length x.args.length) (.slice (some ⟨go,0,none⟩) x.outs.length x.outs.length) (.slice (some ⟨gf,0,none⟩) x.frames.length x.frames.length) (.slice (some ⟨gl,0,none⟩) x.files.length x.files.length) (.slice (some ⟨gs,0,none⟩) x.said.length x.said.length) wr∧∀ i,i < k→∃ q,q < x.outs.length∧x.outs.getD q ⟨#[]⟩=(x.files.getD i R.fl0).name) (fun i _=>x.files.length - (intOf i).toNat)
             case atStart=>exact ⟨0,Nat.zero_le _,rfl,HX5.out,fun i h=>absurd h (Nat.not_lt_zero _)⟩
             case round =>
              obtain ⟨k,hk,rfl,hx6,hall⟩:=hrel
              have HX6:=hid hx6
              have HALL:=hid hall
              clear hx6 hall
              have c12:=HX6.out.c12
              by_cases hlt:k < x.files.length
              ·have hki:(k:Int) < (x.files.length:Int):=by omega
               obtain ⟨nm,hnm⟩:∃ z,(x.files.getD k R.fl0).name=z:=⟨_,rfl⟩
               have HNM:=hid hnm
               clear hnm
               go_wp2_with fail
               clear c12
               go_loopw [4,5] (fun b j wi=>∃ q:Nat,q≤x.outs.length∧j=.int .i64 q∧MX w x (.slice (some ⟨gc,0,none⟩) x.codes.length x.codes.length) (.slice (some ⟨ga,0,none⟩) x.args.length x.args.length) (.slice (some ⟨go,0,none⟩) x.outs.length x.outs.length) (.slice (some ⟨gf,0,none⟩) x.frames.length x.frames.length) (.slice (some ⟨gl,0,none⟩) x.files.length x.files.length) (.slice (some ⟨gs,0,none⟩) x.said.length x.said.length) wi∧∃ th:Bool,b=.bool th∧(th=true ↔ ∃ t,t < q∧x.outs.getD t ⟨#[]⟩=nm)) (fun _ j _=>x.outs.length - (intOf j).toNat)
               case atStart=>exact ⟨0,Nat.zero_le _,rfl,HX6.out,false,rfl,⟨fun h=>Bool.noConfusion h,fun ⟨t,h,_⟩=>absurd h (Nat.not_lt_zero _)⟩⟩
               case round =>
                obtain ⟨q,hq,rfl,hx7,th,rfl,hth⟩:=hrel
                have HX7:=hid hx7
                have HTH:=hid hth
                clear hx7 hth
                have c2:=HX7.out.c2
                by_cases hlq:q < x.outs.length
                ·have hqi:(q:Int) < (x.outs.length:Int):=by omega
                 go_upto_region 14 with fail
                 clear c2
                 have m2:=fun p:J.Gr wr=>(HX7.out.next p.h).c2
                 have m12:=fun p:J.Gr wr=>(HX7.out.next p.h).c12
                 obtain ⟨hgo,o0⟩:=tx_at (HK.out.next HX7.out.lo).k2 hlq
                 obtain ⟨hgl,n0,_⟩:=fl_at (HK.out.next HX7.out.lo).k4 hlt
                 rw [HNM.out] at n0
                 have HOQ:Hid (x.outs.getD q ⟨#[]⟩=x.outs.getD q ⟨#[]⟩):=hid rfl
                 obtain ⟨on,hon⟩:∃ z,x.outs.getD q ⟨#[]⟩=z:=⟨_,rfl⟩
                 have HON:=hid hon
                 rw [hon] at o0
                 clear hon
                 have k2:=fun p:J.Gr wr=>(p.h.cell (p:=⟨go,q,none⟩) hgo).trans o0
                 have k12:=fun p:J.Gr wr=>(p.h.cell (p:=⟨gl,k * 2,none⟩) hgl).trans n0
                 have hne2:Nonempty (J.Gr wr):=⟨⟨wr,Below.refl _ _⟩⟩
                 clear o0 n0
                 cases th
                 ·by_cases he:on=nm
                  ·have HTN:Hid (true=true ↔ ∃ t,t < q+1∧x.outs.getD t ⟨#[]⟩=nm):=hid ⟨fun _=>⟨q,by omega,by rw [HON.out];exact he⟩,fun _=>rfl⟩
                   subst he
                   refine J.wp_region_gr (by kernel_rfl) (by kernel_rfl) ?_
                   repeat (go_big_quiet_step (fail))
                   refine wpQuiet_nil ?_
                   intro _ hw'
                   obtain ⟨pw,rfl⟩:=hw'
                   have HX8:=hid (HX7.out.next pw.h)
                   clear m2 m12 k2 k12 hne2
                   go_wp2_with fail
                   go_roundw
                   case rel=>exact ⟨q+1,by omega,by go_num,HX8.out,true,by first | rfl | simp,HTN.out⟩
                   case measure=>simp [intOf];omega
                  ·have HTN:Hid (false=true ↔ ∃ t,t < q+1∧x.outs.getD t ⟨#[]⟩=nm):=hid ⟨fun h=>Bool.noConfusion h,fun ⟨t,h1,h2⟩=>by
                    by_cases e:t=q
                    ·subst e;rw [HON.out] at h2;exact absurd h2 he
                    ·exact HTH.out.2 ⟨t,by omega,h2⟩⟩
                   have heb:(on.toList == nm.toList)=false:=Bool.eq_false_iff.2 fun h=>he (C.str_eq.1 h)
                   clear he
                   refine J.wp_region_gr (by kernel_rfl) (by kernel_rfl) ?_
                   repeat (go_big_quiet_step (fail))
                   refine wpQuiet_nil ?_
                   intro _ hw'
                   obtain ⟨pw,rfl⟩:=hw'
                   have HX8:=hid (HX7.out.next pw.h)
                   clear m2 m12 k2 k12 hne2
                   go_wp2_with fail
                   go_roundw
                   case rel=>exact ⟨q+1,by omega,by go_num,HX8.out,false,by first | rfl | simp [heb] | (rw [heb]),HTN.out⟩
                   case measure=>simp [intOf];omega
                 ·have HTN:Hid (true=true ↔ ∃ t,t < q+1∧x.outs.getD t ⟨#[]⟩=nm):=hid ⟨fun _=>by obtain ⟨t,h1,h2⟩:=HTH.out.1 rfl;exact ⟨t,by omega,h2⟩,fun _=>rfl⟩
                  refine J.wp_region_gr (by kernel_rfl) (by kernel_rfl) ?_
                  repeat (go_big_quiet_step (fail))
                  refine wpQuiet_nil ?_
                  intro _ hw'
                  obtain ⟨pw,rfl⟩:=hw'
                  have HX8:=hid (HX7.out.next pw.h)
                  clear m2 m12 k2 k12 hne2
                  go_wp2_with fail
                  go_roundw
                  case rel=>exact ⟨q+1,by omega,by go_num,HX8.out,true,by first | rfl | simp,HTN.out⟩
                  case measure=>simp [intOf];omega
                ·obtain rfl:q=x.outs.length:=by omega
                 have hqi:¬ ((x.outs.length:Int) < (x.outs.length:Int)):=by omega
                 clear hlq
                 cases th
                 ·go_wp2_with fail
                  go_ret
                  exact ⟨says_f fun h=>HNO.out (fun h=>by
                   have h9:=h.1.2.2.2.1 k hlt
                   rw [HNM.out] at h9
                   exact Bool.noConfusion (HTH.out.2 h9)) h,HX7.out.lo⟩
                 ·have HST:Hid (∀ i,i < k+1→∃ q,q < x.outs.length∧x.outs.getD q ⟨#[]⟩=(x.files.getD i R.fl0).name):=hid fun i hi=>by
                   rcases Nat.lt_or_ge i k with h9 | h9
                   ·exact HALL.out i h9
                   ·obtain rfl:i=k:=by omega
                    rw [HNM.out]
                    exact HTH.out.1 rfl
                  go_wp2_with fail
                  go_roundw
                  case rel=>exact ⟨k+1,by omega,by go_num,HX7.out,HST.out⟩
                  case measure=>simp [intOf];omega
              ·obtain rfl:k=x.files.length:=by omega
               have hki:¬ ((x.files.length:Int) < (x.files.length:Int)):=by omega
               have RJ:Hid (JoOk x):=hid ⟨R1.out,R2.out,R3.out,HALL.out,R4.out,R5.out,R6.out⟩
               clear hlt
               go_wp2_with fail
               clear c12
               go_loopw [6] (fun i wr=>∃ c:Nat,c≤x.codes.length∧i=.int .i64 c∧MX w x (.slice (some ⟨gc,0,none⟩) x.codes.length x.codes.length) (.slice (some ⟨ga,0,none⟩) x.args.length x.args.length) (.slice (some ⟨go,0,none⟩) x.outs.length x.outs.length) (.slice (some ⟨gf,0,none⟩) x.frames.length x.frames.length) (.slice (some ⟨gl,0,none⟩) x.files.length x.files.length) (.slice (some ⟨gs,0,none⟩) x.said.length x.said.length) wr∧∀ i,i < c→C.Chk (x.codes.getD i R.cd0).fns 0 0 0) (fun i _=>x.codes.length - (intOf i).toNat)
               case atStart=>exact ⟨0,Nat.zero_le _,rfl,HX6.out,fun i h=>absurd h (Nat.not_lt_zero _)⟩
               case round =>
                obtain ⟨c,hc,rfl,hx7,hcs⟩:=hrel
                have HX7:=hid hx7
                have HCS:=hid hcs
                clear hx7 hcs
                have c0:=HX7.out.c0
                by_cases hlc:c < x.codes.length
                ·have hci:(c:Int) < (x.codes.length:Int):=by omega
                 obtain ⟨_,fv,g0,hfns⟩:=cd_at (HK.out.next HX7.out.lo).k0 hlc
                 have HLW:Hid (R.LoFnS (x.codes.getD c R.cd0).fns):=hid (HL.out.lo.1.2 c hlc)
                 have HOW:Hid (R.OkFnS (x.codes.getD c R.cd0).fns):=hid (HOK.out.2 c hlc)
                 obtain ⟨fns,hfe⟩:∃ l,(x.codes.getD c R.cd0).fns=l:=⟨_,rfl⟩
                 have HFE:=hid hfe
                 rw [hfe] at hfns HLW HOW
                 have HFW:=hid (C.fnsRow_of hfns HLW.out)
                 have HCS9:=hid (C.codeS_of HOW.out)
                 obtain ⟨gn,rfl⟩:=hfns.sl
                 clear hfns hfe
                 by_cases hch:C.Chk fns 0 0 0
                 ·have HT:=hid (ok_t HFW.out HCS9.out hch)
                  have HST:Hid (∀ i,i < c+1→C.Chk (x.codes.getD i R.cd0).fns 0 0 0):=hid fun i hi=>by
                   rcases Nat.lt_or_ge i c with h9 | h9
                   ·exact HCS.out i h9
                   ·obtain rfl:i=c:=by omega
                    rw [HFE.out];exact hch
                  clear hch
                  go_wp2_with (go_at_call 26;refine HT.out.mono ?_;rintro e w8 ⟨rfl,hb8⟩;have HX8:=hid (HX7.out.next hb8);clear hb8)
                  go_roundw
                  case rel=>exact ⟨c+1,by omega,by go_num,HX8.out,HST.out⟩
                  case measure=>simp [intOf];omega
                 ·have HT:=hid (ok_f HFW.out HCS9.out hch)
                  have HCH:=hid hch
                  clear hch
                  go_wp2_with (go_at_call 26;refine HT.out.mono ?_;rintro e w8 ⟨rfl,hb8⟩;have HX8:=hid (HX7.out.next hb8);clear hb8)
                  go_ret
                  exact ⟨says_f fun h=>HNO.out (fun h=>HCH.out (by have:=h.2.2.1 c hlc;rwa [HFE.out] at this)) h,HX8.out.lo⟩
                ·obtain rfl:c=x.codes.length:=by omega
                 have hci:¬ ((x.codes.length:Int) < (x.codes.length:Int)):=by omega
                 clear hlc
                 have HFF:=hid (HFR.out wr (HK.out.next HX7.out.lo) R7.out HCS.out)
                 go_wp2_with (first | (refine wpList_load_row rfl 34 _ rfl w.heap.size rfl 34 #[.slice (some ⟨gc,0,none⟩) x.codes.length x.codes.length,.slice (some ⟨ga,0,none⟩) x.args.length x.args.length,.slice (some ⟨go,0,none⟩) x.outs.length x.outs.length,.slice (some ⟨gf,0,none⟩) x.frames.length x.frames.length,.int .i64 x.steps,.int .i64 x.looks,.int .i64 x.kind,.string x.name,.string x.hold,.bool x.over,.int .i64 x.fin,.string x.text,.slice (some ⟨gl,0,none⟩) x.files.length x.files.length,.slice (some ⟨gs,0,none⟩) x.said.length x.said.length] (0,0) _ HX7.out.e Tryz.underlying34 rfl (by kernel_rfl) ?_) | (go_at_call 27;refine HFF.out.mono ?_;rintro e w8 ⟨⟨ob,rfl,hob⟩,hb8⟩;have HX8:=hid (HX7.out.next hb8);have HOB:=hid hob;clear hb8 hob))
                 go_ret
                 exact ⟨⟨ob,rfl,HOB.out.trans ⟨fun h=>⟨Q1.out,Q2.out,Q3.out,fun h2=>(by rw [HOV.out] at h2;cases h2),fun _=>⟨RJ.out,R7.out,HCS.out,h⟩⟩,fun h=>(h.2.2.2.2 HOV.out).2.2.2⟩⟩,HX8.out.lo⟩
            ·have HWW:=hid fun W (_:MX w x (.slice (some ⟨gc,0,none⟩) x.codes.length x.codes.length) (.slice (some ⟨ga,0,none⟩) x.args.length x.args.length) (.slice (some ⟨go,0,none⟩) x.outs.length x.outs.length) (.slice (some ⟨gf,0,none⟩) x.frames.length x.frames.length) (.slice (some ⟨gl,0,none⟩) x.files.length x.files.length) (.slice (some ⟨gs,0,none⟩) x.said.length x.said.length) W)=>says_fa (specWait_any x (v0:=(.slice (some ⟨gc,0,none⟩) x.codes.length x.codes.length)) (v1:=(.slice (some ⟨ga,0,none⟩) x.args.length x.args.length)) (v2:=(.slice (some ⟨go,0,none⟩) x.outs.length x.outs.length)) (v3:=(.slice (some ⟨gf,0,none⟩) x.frames.length x.frames.length)) (v4:=(.slice (some ⟨gl,0,none⟩) x.files.length x.files.length)) (v5:=(.slice (some ⟨gs,0,none⟩) x.said.length x.said.length)) W HL.out.name HL.out.hold) r7
             have R7:=hid r7
             clear r7
             go_wp2_with (first | (go_at_call_of 22 (Value.int IntKind.i64 (x.codes.length:Int));refine (HIC.out _).mono ?_;rintro e w9 ⟨rfl,hw⟩;have hw2:=hw.symm;clear hw;subst hw2) | (go_at_call 21;refine (HTA.out _ HX2.out).mono ?_;rintro e w3 ⟨rfl,hw⟩;have hw2:=hw.symm;clear hw;subst hw2) | (go_at_call 24;refine HJ.out.mono ?_;rintro e w4 ⟨rfl,hb4⟩;have HX4:=hid (HX2.out.next hb4);clear hb4 d0 d1 d2 d3 d4 d5 d6 d7 d8 d9 d10 d11 d12 d13;have d0:=HX4.out.c0;have d1:=HX4.out.c1;have d2:=HX4.out.c2;have d3:=HX4.out.c3;have d4:=HX4.out.c4;have d5:=HX4.out.c5;have d6:=HX4.out.c6;have d7:=HX4.out.c7;have d8:=HX4.out.c8;have d9:=HX4.out.c9;have d10:=HX4.out.c10;have d11:=HX4.out.c11;have d12:=HX4.out.c12;have d13:=HX4.out.c13) | (go_at_call_of 22 (Value.int IntKind.i64 x.looks);refine (HIL.out _).mono ?_;rintro e w9 ⟨rfl,hw⟩;have hw2:=hw.symm;clear hw;subst hw2) | (go_at_call 25;refine (HWW.out _ HX4.out).mono ?_;rintro e w5 ⟨rfl,hb5⟩;have HX5:=hid (HX4.out.next hb5);clear hb5 d0 d1 d2 d3 d4 d5 d6 d7 d8 d9 d10 d11 d12 d13))
             all_goals first
              | exact (no_undef9 (by assumption)).elim
              | (go_ret;exact ⟨says_f fun h=>HNO.out (fun h=>R7.out h.2.1) h,HX5.out.lo⟩)
           ·have f6:x.text.toList.isEmpty=false:=not_empty2 r6
            have R6:=hid r6
            clear r6
            go_wp2_with (first | (go_at_call_of 22 (Value.int IntKind.i64 (x.codes.length:Int));refine (HIC.out _).mono ?_;rintro e w9 ⟨rfl,hw⟩;have hw2:=hw.symm;clear hw;subst hw2) | (go_at_call 21;refine (HTA.out _ HX2.out).mono ?_;rintro e w3 ⟨rfl,hw⟩;have hw2:=hw.symm;clear hw;subst hw2) | (go_at_call 24;refine HJ.out.mono ?_;rintro e w4 ⟨rfl,hb4⟩;have HX4:=hid (HX2.out.next hb4);clear hb4 d0 d1 d2 d3 d4 d5 d6 d7 d8 d9 d10 d11 d12 d13;have d0:=HX4.out.c0;have d1:=HX4.out.c1;have d2:=HX4.out.c2;have d3:=HX4.out.c3;have d4:=HX4.out.c4;have d5:=HX4.out.c5;have d6:=HX4.out.c6;have d7:=HX4.out.c7;have d8:=HX4.out.c8;have d9:=HX4.out.c9;have d10:=HX4.out.c10;have d11:=HX4.out.c11;have d12:=HX4.out.c12;have d13:=HX4.out.c13) | (go_at_call_of 22 (Value.int IntKind.i64 x.looks);refine (HIL.out _).mono ?_;rintro e w9 ⟨rfl,hw⟩;have hw2:=hw.symm;clear hw;subst hw2))
            all_goals first
             | exact (no_undef9 (by assumption)).elim
             | (go_ret;exact ⟨says_f fun h=>HNO.out (fun h=>R6.out h.1.2.2.2.2.2.2) h,HX4.out.lo⟩)
          ·have f5:(x.fin != 0)=true:=by simpa using r5
           have R5:=hid r5
           clear r5
           go_wp2_with (first | (go_at_call_of 22 (Value.int IntKind.i64 (x.codes.length:Int));refine (HIC.out _).mono ?_;rintro e w9 ⟨rfl,hw⟩;have hw2:=hw.symm;clear hw;subst hw2) | (go_at_call 21;refine (HTA.out _ HX2.out).mono ?_;rintro e w3 ⟨rfl,hw⟩;have hw2:=hw.symm;clear hw;subst hw2) | (go_at_call 24;refine HJ.out.mono ?_;rintro e w4 ⟨rfl,hb4⟩;have HX4:=hid (HX2.out.next hb4);clear hb4 d0 d1 d2 d3 d4 d5 d6 d7 d8 d9 d10 d11 d12 d13;have d0:=HX4.out.c0;have d1:=HX4.out.c1;have d2:=HX4.out.c2;have d3:=HX4.out.c3;have d4:=HX4.out.c4;have d5:=HX4.out.c5;have d6:=HX4.out.c6;have d7:=HX4.out.c7;have d8:=HX4.out.c8;have d9:=HX4.out.c9;have d10:=HX4.out.c10;have d11:=HX4.out.c11;have d12:=HX4.out.c12;have d13:=HX4.out.c13) | (go_at_call_of 22 (Value.int IntKind.i64 x.looks);refine (HIL.out _).mono ?_;rintro e w9 ⟨rfl,hw⟩;have hw2:=hw.symm;clear hw;subst hw2))
           all_goals first
            | exact (no_undef9 (by assumption)).elim
            | (go_ret;exact ⟨says_f fun h=>HNO.out (fun h=>R5.out h.1.2.2.2.2.2.1) h,HX4.out.lo⟩)
         ·have HIL:Hid (∀ W,Calls Tryz.prog 22 #[.int .i64 x.looks,.int .i64 0,.int .i64 100] W fun e w'=>e=.returned (.bool false)∧w'=W):=hid fun W=>(C.l16In_any x.looks 0 100 W).mono fun _ _ h=>⟨by rw [h.1,inB_f (by omega)],h.2⟩
          have R4:=hid r4
          clear r4
          go_wp2_with (first | (go_at_call_of 22 (Value.int IntKind.i64 (x.codes.length:Int));refine (HIC.out _).mono ?_;rintro e w9 ⟨rfl,hw⟩;have hw2:=hw.symm;clear hw;subst hw2) | (go_at_call 21;refine (HTA.out _ HX2.out).mono ?_;rintro e w3 ⟨rfl,hw⟩;have hw2:=hw.symm;clear hw;subst hw2) | (go_at_call 24;refine HJ.out.mono ?_;rintro e w4 ⟨rfl,hb4⟩;have HX4:=hid (HX2.out.next hb4);clear hb4 d0 d1 d2 d3 d4 d5 d6 d7 d8 d9 d10 d11 d12 d13;have d0:=HX4.out.c0;have d1:=HX4.out.c1;have d2:=HX4.out.c2;have d3:=HX4.out.c3;have d4:=HX4.out.c4;have d5:=HX4.out.c5;have d6:=HX4.out.c6;have d7:=HX4.out.c7;have d8:=HX4.out.c8;have d9:=HX4.out.c9;have d10:=HX4.out.c10;have d11:=HX4.out.c11;have d12:=HX4.out.c12;have d13:=HX4.out.c13) | (go_at_call_of 22 (Value.int IntKind.i64 x.looks);refine (HIL.out _).mono ?_;rintro e w9 ⟨rfl,hw⟩;have hw2:=hw.symm;clear hw;subst hw2))
          all_goals first
           | exact (no_undef9 (by assumption)).elim
           | (go_ret;exact ⟨says_f fun h=>HNO.out (fun h=>R4.out h.1.2.2.2.2.1) h,HX4.out.lo⟩)
        ·have HJ:=hid (says_fa HJB.out r3)
         have R3:=hid r3
         clear r3 HJB
         go_wp2_with (first | (go_at_call_of 22 (Value.int IntKind.i64 (x.codes.length:Int));refine (HIC.out _).mono ?_;rintro e w9 ⟨rfl,hw⟩;have hw2:=hw.symm;clear hw;subst hw2) | (go_at_call 21;refine (HTA.out _ HX2.out).mono ?_;rintro e w3 ⟨rfl,hw⟩;have hw2:=hw.symm;clear hw;subst hw2) | (go_at_call 24;refine HJ.out.mono ?_;rintro e w4 ⟨rfl,hb4⟩;have HX4:=hid (HX2.out.next hb4);clear hb4 d0 d1 d2 d3 d4 d5 d6 d7 d8 d9 d10 d11 d12 d13;have d0:=HX4.out.c0;have d1:=HX4.out.c1;have d2:=HX4.out.c2;have d3:=HX4.out.c3;have d4:=HX4.out.c4;have d5:=HX4.out.c5;have d6:=HX4.out.c6;have d7:=HX4.out.c7;have d8:=HX4.out.c8;have d9:=HX4.out.c9;have d10:=HX4.out.c10;have d11:=HX4.out.c11;have d12:=HX4.out.c12;have d13:=HX4.out.c13))
         all_goals first
          | exact (no_undef9 (by assumption)).elim
          | (go_ret;exact ⟨says_f fun h=>HNO.out (fun h=>R3.out h.1.2.2.1) h,HX4.out.lo⟩)
       ·have HTA:Hid (∀ W,MX w x (.slice (some ⟨gc,0,none⟩) x.codes.length x.codes.length) (.slice (some ⟨ga,0,none⟩) x.args.length x.args.length) (.slice (some ⟨go,0,none⟩) x.outs.length x.outs.length) (.slice (some ⟨gf,0,none⟩) x.frames.length x.frames.length) (.slice (some ⟨gl,0,none⟩) x.files.length x.files.length) (.slice (some ⟨gs,0,none⟩) x.said.length x.said.length) W→Calls Tryz.prog 21 #[.slice (some ⟨ga,0,none⟩) x.args.length x.args.length,.int .i64 40] W fun e w'=>e=.returned (.bool false)∧w'=W):=hid fun W hW=>(specTexts_any x.args 40 W (by decide) HL.out.args (HK.out.next hW.lo).k1).mono fun _ _ h=>⟨h.1.neg r2,h.2⟩
        have R2:=hid r2
        clear r2
        go_wp2_with (first | (go_at_call_of 22 (Value.int IntKind.i64 (x.codes.length:Int));refine (HIC.out _).mono ?_;rintro e w9 ⟨rfl,hw⟩;have hw2:=hw.symm;clear hw;subst hw2) | (go_at_call 21;refine (HTA.out _ HX2.out).mono ?_;rintro e w3 ⟨rfl,hw⟩;have hw2:=hw.symm;clear hw;subst hw2))
        all_goals first
         | exact (no_undef9 (by assumption)).elim
         | (go_ret;exact ⟨says_f fun h=>HNO.out (fun h=>R2.out h.1.2.1) h,HX2.out.lo⟩)
      ·have f1:((x.args.length:Int) != (x.codes.length:Int))=true:=by simp;omega
       have R1:=hid r1
       clear r1
       go_wp2_with (first | (go_at_call_of 22 (Value.int IntKind.i64 (x.codes.length:Int));refine (HIC.out _).mono ?_;rintro e w9 ⟨rfl,hw⟩;have hw2:=hw.symm;clear hw;subst hw2))
       all_goals first
        | exact (no_undef9 (by assumption)).elim
        | (go_ret;exact ⟨says_f fun h=>HNO.out (fun h=>R1.out h.1.1) h,HX2.out.lo⟩)
     ·have HIC:Hid (∀ W,Calls Tryz.prog 22 #[.int .i64 (x.codes.length:Int),.int .i64 1,.int .i64 40] W fun e w'=>e=.returned (.bool false)∧w'=W):=hid fun W=>(C.l16In_any (x.codes.length:Int) 1 40 W).mono fun _ _ h=>⟨by rw [h.1,inB_f (by omega)],h.2⟩
      have R0:=hid r0
      clear r0
      go_wp2_with (first | (go_at_call_of 22 (Value.int IntKind.i64 (x.codes.length:Int));refine (HIC.out _).mono ?_;rintro e w9 ⟨rfl,hw⟩;have hw2:=hw.symm;clear hw;subst hw2))
      all_goals first
       | exact (no_undef9 (by assumption)).elim
       | (go_ret;exact ⟨says_f fun h=>HNO.out (fun h=>R0.out ⟨few_codes h.2.2.2,some_codes h.1⟩) h,HX2.out.lo⟩)
    ·have HOO:=hid (specOver_any x w2 (HK.out.next HX2.out.lo) HL.out.lo HL.out.text)
     go_wp2_with (first | (refine wpList_load_row rfl 34 _ rfl w.heap.size rfl 34 #[.slice (some ⟨gc,0,none⟩) x.codes.length x.codes.length,.slice (some ⟨ga,0,none⟩) x.args.length x.args.length,.slice (some ⟨go,0,none⟩) x.outs.length x.outs.length,.slice (some ⟨gf,0,none⟩) x.frames.length x.frames.length,.int .i64 x.steps,.int .i64 x.looks,.int .i64 x.kind,.string x.name,.string x.hold,.bool x.over,.int .i64 x.fin,.string x.text,.slice (some ⟨gl,0,none⟩) x.files.length x.files.length,.slice (some ⟨gs,0,none⟩) x.said.length x.said.length] (0,0) _ HX2.out.e Tryz.underlying34 rfl (by kernel_rfl) ?_) | (go_at_call 23;refine HOO.out.mono ?_;rintro e w4 ⟨⟨ob,rfl,hob⟩,hb4⟩;have HX4:=hid (HX2.out.next hb4);have HOB:=hid hob;clear hb4 hob))
     go_ret
     exact ⟨⟨ob,rfl,HOB.out.trans ⟨fun h=>⟨Q1.out,Q2.out,Q3.out,fun _=>h,fun h2=>by rw [HOV.out] at h2;cases h2⟩,fun h=>h.2.2.2.1 HOV.out⟩⟩,HX4.out.lo⟩
   ·have HIS:Hid (∀ W,Calls Tryz.prog 22 #[.int .i64 st,.int .i64 0,.int .i64 4000] W fun e w'=>e=.returned (.bool false)∧w'=W):=hid fun W=>(C.l16In_any st 0 4000 W).mono fun _ _ h=>⟨by rw [h.1,inB_f (by omega)],h.2⟩
    have Q4:=hid q3
    clear q3
    go_wp2_with (first | (go_at_call 20;refine HFI.out.mono ?_;rintro e w2 ⟨rfl,hb2⟩;have HX2:=hid (HX.out.next hb2);clear hb2 c12;have c13:=HX2.out.c13;have c4:=HX2.out.c4;rw [HST.out] at c4) | (go_at_call 21;refine (HTX.out _ HX2.out).mono ?_;rintro e w3 ⟨rfl,hw⟩;have hw2:=hw.symm;clear hw;subst hw2) | (go_at_call_of 22 (Value.int IntKind.i64 st);refine (HIS.out _).mono ?_;rintro e w9 ⟨rfl,hw⟩;have hw2:=hw.symm;clear hw;subst hw2))
    all_goals first
     | exact (no_undef9 (by assumption)).elim
     | (go_ret;exact ⟨says_f fun h=>Q4.out (by have:=h.2.2.1;rwa [HST.out] at this),HX2.out.lo⟩)
  ·have HTX:Hid (∀ W,MX w x (.slice (some ⟨gc,0,none⟩) x.codes.length x.codes.length) (.slice (some ⟨ga,0,none⟩) x.args.length x.args.length) (.slice (some ⟨go,0,none⟩) x.outs.length x.outs.length) (.slice (some ⟨gf,0,none⟩) x.frames.length x.frames.length) (.slice (some ⟨gl,0,none⟩) x.files.length x.files.length) (.slice (some ⟨gs,0,none⟩) x.said.length x.said.length) W→Calls Tryz.prog 21 #[.slice (some ⟨gs,0,none⟩) x.said.length x.said.length,.int .i64 50] W fun e w'=>e=.returned (.bool false)∧w'=W):=hid fun W hW=>(specTexts_any x.said 50 W (by decide) HL.out.said (HK.out.next hW.lo).k5).mono fun _ _ h=>⟨h.1.neg q2,h.2⟩
   have Q2:=hid q2
   clear q2
   go_wp2_with (first | (go_at_call 20;refine HFI.out.mono ?_;rintro e w2 ⟨rfl,hb2⟩;have HX2:=hid (HX.out.next hb2);clear hb2 c12;have c13:=HX2.out.c13;have c4:=HX2.out.c4) | (go_at_call 21;refine (HTX.out _ HX2.out).mono ?_;rintro e w3 ⟨rfl,hw⟩;have hw2:=hw.symm;clear hw;subst hw2))
   all_goals first
    | exact (no_undef9 (by assumption)).elim
    | (go_ret;exact ⟨says_f fun h=>Q2.out h.2.1,HX2.out.lo⟩)
 ·have HFI:=hid (says_fa (P.specFiles_any x.files W1 (okfl_of HL.out.files) HL.out.files.1 (HK.out.next HX.out.lo).k4) q1)
  have Q1:=hid q1
  clear q1
  go_wp2_with (go_at_call 20;refine HFI.out.mono ?_;rintro e w2 ⟨rfl,hb2⟩;have HX2:=hid (HX.out.next hb2);clear hb2 c12;have c13:=HX2.out.c13;have c4:=HX2.out.c4)
  all_goals first
   | exact (no_undef9 (by assumption)).elim
   | (go_ret;exact ⟨says_f fun h=>Q1.out h.1,HX2.out.lo⟩)
end Go.Proofs.YtbkmglknbflkhaaGreatDoor.M
namespace Go.Proofs.YtbkmglknbflkhaaGreatDoor.M
open Go.RowKit
open C (In Sh in0 fn0 kt FnsRow FnR CodeS EnvI Chk Least flaw lt_hp cell_hp frozen_hp hp_next)
open Go.Proofs.YtbkmglknbflkhaaGreatDoor.R (hid)
set_option maxRecDepth 20000
theorem stand_info:(Tryz.prog.info? 105).map (fun i=>(i.zero,i.size,i.bytes))=some (some (.agg #[.int .i64 0,.string ⟨#[]⟩,.string ⟨#[]⟩,.int .i64 0,.int .i64 0,.int .i64 0,.string ⟨#[]⟩]),7,80):=by kernel_rfl
theorem made7 (a0 a1 a2 a3 a4 a5 a6:Value) (n i:Nat) (hi:i < n) (j:Nat) (hj:j < 7):(madeCells #[a0,a1,a2,a3,a4,a5,a6] (n * 7))[i * 7+j]?=some ((#[a0,a1,a2,a3,a4,a5,a6]:Array Value)[j]!):=by
 have key:∀ k,k < n * 7→(madeCells #[a0,a1,a2,a3,a4,a5,a6] (n * 7))[k]?=some ((#[a0,a1,a2,a3,a4,a5,a6]:Array Value)[k % 7]!):=fun k hk=>by
  unfold madeCells
  simp [hk]
 rw [key _ (by omega),show (i * 7+j) % 7=j by omega]
theorem StR.made {W:World} {B g n:Nat} (h:W.ownsRow B 105 7 (.slice (some ⟨g,0,none⟩) n n) n (madeCells #[.int .i64 0,.string ⟨#[]⟩,.string ⟨#[]⟩,.int .i64 0,.int .i64 0,.int .i64 0,.string ⟨#[]⟩] (n * 7)).toList):StR W g n fun _=>sd0:=by
 obtain ⟨h1,⟨h2,_⟩ | ⟨k,c,cur,e,hb,h4,h5,h6,h7,h8⟩⟩:=h
 ·cases h2
 ·injection e with e1 _ e3
  injection e1 with e1
  injection e1 with e1
  subst e1 e3
  have hcur:cur.size=n * 7:=by rw [h7]
  have hcells:cur.toList=(madeCells #[.int .i64 0,.string ⟨#[]⟩,.string ⟨#[]⟩,.int .i64 0,.int .i64 0,.int .i64 0,.string ⟨#[]⟩] (n * 7)).toList:=by
   rw [← h8,List.take_of_length_le (by simp [hcur])]
  have hcc:cur=madeCells #[.int .i64 0,.string ⟨#[]⟩,.string ⟨#[]⟩,.int .i64 0,.int .i64 0,.int .i64 0,.string ⟨#[]⟩] (n * 7):=Array.ext' hcells
  refine ⟨cur,h4,hcur,fun i hi j hj=>?_⟩
  rw [hcc,made7 _ _ _ _ _ _ _ n i hi j hj]
  obtain rfl | rfl | rfl | rfl | rfl | rfl | rfl:j=0∨j=1∨j=2∨j=3∨j=4∨j=5∨j=6:=by omega
  all_goals rfl
def StoodTo (x:R.Mc) (c:Nat) (S:Nat→Sd):Prop:=∀ i,i < x.frames.length→((0≤(fr x i).code∧(fr x i).code < c)∧(0≤(fr x i).fn∧(fr x i).fn < (fnsOf x (fr x i).code).length)→∃ A,Least (fnsOf x (fr x i).code) (fnOf x i) A∧S i=standOf (fnOf x i) A (fr x i).pl)∧(¬ ((0≤(fr x i).code∧(fr x i).code < c)∧(0≤(fr x i).fn∧(fr x i).fn < (fnsOf x (fr x i).code).length))→S i=sd0)
theorem StoodTo.zero (x:R.Mc):StoodTo x 0 fun _=>sd0:=fun i _=>⟨fun h=>absurd h.1.2 (by have:=h.1.1;omega),fun _=>rfl⟩
theorem StoodTo.step {x:R.Mc} {c:Nat} {S S2:Nat→Sd} (h:StoodTo x c S) {fns:List C.Fn} (hf:(x.codes.getD c R.cd0).fns=fns) (hs:Shows x c fns fns.length S S2):StoodTo x (c+1) S2:=fun i hi=>by
 obtain ⟨h1,h2⟩:=h i hi
 obtain ⟨s1,s2⟩:=hs i hi
 by_cases e:(fr x i).code=(c:Int)
 ·have hfo:fnsOf x (fr x i).code=fns:=by unfold fnsOf;rw [e];exact hf
  have hfn:fnOf x i=fns.getD (fr x i).fn.toNat fn0:=by unfold fnOf;rw [hfo]
  rw [hfo,hfn]
  rw [hfo] at h2
  refine ⟨fun q=>s1 ⟨e,q.2.1,q.2.2⟩,fun q=>?_⟩
  rw [s2 (fun r=>q ⟨⟨by omega,by omega⟩,r.2.1,r.2.2⟩)]
  exact h2 (fun r=>by omega)
 ·have hs2:=s2 (fun r=>e r.1)
  rw [hs2]
  exact ⟨fun q=>h1 ⟨⟨q.1.1,by omega⟩,q.2⟩,fun q=>h2 fun r=>q ⟨⟨r.1.1,by omega⟩,r.2⟩⟩
def StEnd (x:R.Mc) (e:Ending) (w':World):Prop:=(∃ g S,e=.returned (.tuple #[.slice (some ⟨g,0,none⟩) x.frames.length x.frames.length,.bool true])∧StR w' g x.frames.length S∧CodesOk x∧StoodTo x x.codes.length S)∨(e=.returned (.tuple #[.slice none 0 0,.bool false])∧¬ CodesOk x)
structure SX (w:World) (x:R.Mc) (v0 v1 v2 v3 v4 v5:Value) (gS bs:Nat) (S:Nat→Sd) (W:World):Prop where
 mx:MX w x v0 v1 v2 v3 v4 v5 W
 es:W.heap[bs]?=some (.cells #[.slice (some ⟨gS,0,none⟩) x.frames.length x.frames.length] 97)
 row:StR W gS x.frames.length S
theorem SX.next {w:World} {x:R.Mc} {v0 v1 v2 v3 v4 v5:Value} {gS bs:Nat} {S:Nat→Sd} {W V:World} (h:SX w x v0 v1 v2 v3 v4 v5 gS bs S W) (hb:Below W.heap.size W V):SX w x v0 v1 v2 v3 v4 v5 gS bs S V:=⟨h.mx.next hb,hp_next h.es hb,h.row.next hb⟩
theorem SX.but {w:World} {x:R.Mc} {v0 v1 v2 v3 v4 v5:Value} {gS bs:Nat} {S S2:Nat→Sd} {W V:World} (h:SX w x v0 v1 v2 v3 v4 v5 gS bs S W) (hb:But gS W V) (hg:w.heap.size < gS) (hr:StR V gS x.frames.length S2):SX w x v0 v1 v2 v3 v4 v5 gS bs S2 V :=
 ⟨⟨hb.lo h.mx.lo (by omega) h.mx.lo.size,hb.hp (by omega) h.mx.e⟩,hb.hp (fun q=>by
  obtain ⟨cur,e,_⟩:=h.row
  have:=h.es;rw [q,e] at this;simp at this) h.es,hr⟩
set_option maxHeartbeats 8000000 in
theorem stands_any (x:R.Mc) {v0 v1 v2 v3 v4 v5:Value} {B:Nat} (w:World) (h:MK B w x v0 v1 v2 v3 v4 v5) (hE:EnvI w) (hlc:R.LoCdS x.codes) (hoc:R.OkCdS x.codes) (hfl:x.frames.length≤1048576) :
  Calls Tryz.prog 67 #[mval x v0 v1 v2 v3 v4 v5] w fun e w'=>StEnd x e w'∧Below w.heap.size w w':=by
 have HK:=hid h
 obtain ⟨gf,rfl⟩:=h.k3.sl
 obtain ⟨gc,rfl⟩:=h.k0.sl
 have HE:=hid hE
 have HLC:=hid hlc
 have HOC:=hid hoc
 have hcl:=hlc.1
 obtain ⟨i7,hi7,hy0,hy1,hy2⟩:=info_parts stand_info
 have HH7:=hid (And.intro hi7 (And.intro hy0 (And.intro hy1 hy2)))
 clear h hE hlc hoc hi7 hy0 hy1
 go_enter Tryz.func67,Tryz.ntmps67
 go_upto_region 1 with fail
 have HX:=hid (MX.start w x (.slice (some ⟨gc,0,none⟩) x.codes.length x.codes.length) v1 v2 (.slice (some ⟨gf,0,none⟩) x.frames.length x.frames.length) v4 v5)
 have HZ1:Hid ((w.alloc (.cells #[.slice (some ⟨gc,0,none⟩) x.codes.length x.codes.length,v1,v2,.slice (some ⟨gf,0,none⟩) x.frames.length x.frames.length,.int .i64 x.steps,.int .i64 x.looks,.int .i64 x.kind,.string x.name,.string x.hold,.bool x.over,.int .i64 x.fin,.string x.text,v4,v5] 34)).heap.size=w.heap.size+1):=hid (by simp)
 obtain ⟨W1,hW1⟩:∃ W,w.alloc (.cells #[.slice (some ⟨gc,0,none⟩) x.codes.length x.codes.length,v1,v2,.slice (some ⟨gf,0,none⟩) x.frames.length x.frames.length,.int .i64 x.steps,.int .i64 x.looks,.int .i64 x.kind,.string x.name,.string x.hold,.bool x.over,.int .i64 x.fin,.string x.text,v4,v5] 34)=W:=⟨_,rfl⟩
 rw [hW1] at HX HZ1 ⊢
 clear hW1
 have c3:=HX.out.c3
 go_upto_region 2 with (at_make;refine wpList_make_full _ rfl _ _ 97 rfl W1.heap.size 105 i7 (.agg #[.int .i64 0,.string ⟨#[]⟩,.string ⟨#[]⟩,.int .i64 0,.int .i64 0,.int .i64 0,.string ⟨#[]⟩]) 7 Tryz.underlying97 HH7.out.1 HH7.out.2.1 HH7.out.2.2.1 _ _ _ _ x.frames.length rfl rfl rfl rfl (by rw [hy2];omega) (by unfold maxLen;omega) (by omega) ?_;intro W3 o3 g3)
 have b3:=(Below.refl W1.heap.size W1).grown g3 (Nat.le_refl _) (fun q e=>by cases e)
 have HR3:=hid (StR.made o3)
 have HX3:=hid (HX.out.next b3)
 clear o3 g3 b3 c3
 have HA4:=hid ((Below.refl W3.heap.size W3).alloc (Nat.le_refl _) (.cells #[.slice (some ⟨W1.heap.size,0,none⟩) x.frames.length x.frames.length] 97))
 have HX4:Hid (SX w x (.slice (some ⟨gc,0,none⟩) x.codes.length x.codes.length) v1 v2 (.slice (some ⟨gf,0,none⟩) x.frames.length x.frames.length) v4 v5 W1.heap.size W3.heap.size (fun _=>sd0) (W3.alloc (.cells #[.slice (some ⟨W1.heap.size,0,none⟩) x.frames.length x.frames.length] 97))):=hid ⟨HX3.out.next HA4.out,heap_alloc_new _ _,HR3.out.next HA4.out⟩
 obtain ⟨W4,hW4⟩:∃ W,W3.alloc (.cells #[.slice (some ⟨W1.heap.size,0,none⟩) x.frames.length x.frames.length] 97)=W:=⟨_,rfl⟩
 rw [hW4] at HX4 HA4 ⊢
 obtain ⟨bs,hbs⟩:∃ b,W3.heap.size=b:=⟨_,rfl⟩
 rw [hbs] at HX4 ⊢
 obtain ⟨gS,hgS⟩:∃ b,W1.heap.size=b:=⟨_,rfl⟩
 rw [hgS] at HX4 HZ1 ⊢
 have HGS:Hid (w.heap.size < gS):=hid (by have:=HZ1.out;omega)
 clear hW4 hbs hgS
 have c0:=HX4.out.mx.c0
 go_upto_region 3 with fail
 clear c0
 go_wp2_with fail
 go_loopw [15] (fun i wr=>∃ c:Nat,c≤x.codes.length∧i=.int .i64 c∧(∀ i,i < c→Chk (x.codes.getD i R.cd0).fns 0 0 0)∧∃ S,SX w x (.slice (some ⟨gc,0,none⟩) x.codes.length x.codes.length) v1 v2 (.slice (some ⟨gf,0,none⟩) x.frames.length x.frames.length) v4 v5 gS bs S wr∧StoodTo x c S) (fun i _=>x.codes.length - (intOf i).toNat)
 case atStart=>exact ⟨0,Nat.zero_le _,rfl,fun i h=>absurd h (Nat.not_lt_zero _),_,HX4.out,StoodTo.zero x⟩
 case round =>
  obtain ⟨c,hc,rfl,hall,S,hx5,hst⟩:=hrel
  have HALL:=hid hall
  have HX5:=hid hx5
  have HST:=hid hst
  clear hall hx5 hst
  by_cases hlt:c < x.codes.length
  ·have hci:(c:Int) < (x.codes.length:Int):=by omega
   obtain ⟨hgc,fv,g0,hfns⟩:=cd_at (HK.out.next HX5.out.mx.lo).k0 hlt
   obtain ⟨_,fv2,g2,hfns2⟩:=cd_at HK.out.k0 hlt
   have hfv:fv=fv2:=by
    have hgc2:gc < w.heap.size:=World.block_lt_of_cell? w _ g2
    rw [HX5.out.mx.lo.cell (p:=⟨gc,c,none⟩) hgc2,g2] at g0
    exact (Option.some.inj g0).symm
   subst hfv
   have HFV:=hid (C.fnsRow_of hfns2 (HLC.out.2 c hlt))
   have HCS:=hid (C.codeS_of (HOC.out.2 c hlt))
   obtain ⟨gn,rfl⟩:=hfns.sl
   clear hfns hfns2 g2
   obtain ⟨fns,hfe⟩:∃ l,(x.codes.getD c R.cd0).fns=l:=⟨_,rfl⟩
   have HFE:=hid hfe
   rw [hfe] at HFV HCS g0 
   clear hfe
   go_upto_region 5 with fail
   obtain ⟨t0,t1,hlo⟩:=two_at wr (.cells #[.int .i64 c] 3) (.cells #[.slice (some ⟨gn,0,none⟩) fns.length fns.length] 59)
   obtain ⟨W6,hW6⟩:∃ W,((wr.alloc (.cells #[.int .i64 c] 3)).alloc (.cells #[.slice (some ⟨gn,0,none⟩) fns.length fns.length] 59))=W:=⟨_,rfl⟩
   rw [hW6] at t0 t1 hlo ⊢
   have HX6:=hid (HX5.out.next hlo)
   have HCB:Hid (CB x (.slice (some ⟨gc,0,none⟩) x.codes.length x.codes.length) v1 v2 (.slice (some ⟨gf,0,none⟩) x.frames.length x.frames.length) v4 v5 c w.heap.size wr.heap.size bs gS S W6):=hid ⟨HX6.out.mx.e,t0,HX6.out.es,HX6.out.row⟩
   have q0:W6.cell? ⟨wr.heap.size+1,0,none⟩=some (.slice (some ⟨gn,0,none⟩) fns.length fns.length):=cell_hp t1 0
   have HBY:=hid (byS_any HFV.out HCS.out HE.out x HK.out HX6.out.mx.lo HCB.out hfl (Nat.le_of_lt HGS.out))
   clear hW6 t0 t1 hlo g0
   go_upto_region 6 with (go_at_call 92;refine HBY.out.mono ?_;rintro e w7 ⟨hcs,hb7⟩;have HB7:=hid hb7;clear hb7 q0;rcases hcs with ⟨rfl,hck,S2,hr7,hs7⟩ | ⟨fc,fk,fi,hfc,rfl,hck⟩ <;> have HCK:=hid hck <;> clear hck)
   ·have HX7:=hid (HX6.out.but HB7.out HGS.out hr7)
    have HS7:=hid hs7
    clear hr7 hs7
    have HN:Hid (∀ i,i < c+1→Chk (x.codes.getD i R.cd0).fns 0 0 0):=hid fun i hi=>by
     rcases Nat.lt_or_ge i c with h9 | h9
     ·exact HALL.out i h9
     ·obtain rfl:i=c:=by omega
      rw [HFE.out];exact HCK.out
    go_wp2_with fail
    go_roundw
    case rel=>exact ⟨c+1,by omega,by go_num,HN.out,S2,HX7.out,HST.out.step HFE.out HS7.out⟩
    case measure=>simp [intOf];omega
   ·have HLO:Hid (Below w.heap.size w w7):=hid (HB7.out.lo HX6.out.mx.lo (Nat.le_of_lt HGS.out) HX6.out.mx.lo.size)
    have HNO:Hid (¬ CodesOk x):=hid fun h=>hfc (by have:=h c hlt;rw [HFE.out] at this;exact (HCK.out.uniq this).1)
    clear hfc
    unfold flaw
    go_wp2_with fail
    go_ret2
    exact ⟨.inr ⟨rfl,HNO.out⟩,HLO.out⟩
  ·obtain rfl:c=x.codes.length:=by omega
   have hci:¬ ((x.codes.length:Int) < (x.codes.length:Int)):=by omega
   clear hlt
   have q0:wr.cell? ⟨bs,0,none⟩=some (.slice (some ⟨gS,0,none⟩) x.frames.length x.frames.length):=cell_hp HX5.out.es 0
   go_wp2_with fail
   go_ret2
   exact ⟨.inl ⟨gS,S,rfl,HX5.out.row,HALL.out,HST.out⟩,HX5.out.mx.lo⟩
end Go.Proofs.YtbkmglknbflkhaaGreatDoor.M
namespace Go.Proofs.YtbkmglknbflkhaaGreatDoor.M
open Go.RowKit
open C (In Sh in0 fn0 kt Least EnvI lt_hp cell_hp frozen_hp hp_next)
open Go.Proofs.YtbkmglknbflkhaaGreatDoor.J (Says says_t says_f)
open Go.Proofs.YtbkmglknbflkhaaGreatDoor.R (hid)
set_option maxRecDepth 20000
def UpTo (x:R.Mc) (k:Nat):Prop:=∀ i,i < k→UpOk x i∧0≤(fr x i).code∧(fr x i).code≤i
theorem UpTo.bound {x:R.Mc} {k:Nat} (h:UpTo x k) (hk:k≤40):-1≤was x k∧was x k≤1000:=by
 cases k with
 | zero=>show -1≤(-1:Int)∧(-1:Int)≤1000;omega
 | succ r=>have:=(h r (by omega)).2;show -1≤(fr x r).code∧(fr x r).code≤1000;omega
theorem UpTo.step {x:R.Mc} {k:Nat} (h:UpTo x k) (hk:(fr x k).code=was x k+1∨((fr x k).code=was x k∧¬ k=0)):UpTo x (k+1):=fun i hi=>by
 rcases Nat.lt_or_ge i k with h9 | h9
 ·exact h i h9
 ·obtain rfl:i=k:=by omega
  cases i with
  | zero =>
   rcases hk with hk | ⟨_,hk⟩
   ·have h9:(fr x 0).code=-1+1:=hk
    exact ⟨.inr hk,by omega,by omega⟩
   ·exact absurd rfl hk
  | succ r =>
   have h8:=(h r (by omega)).2
   have h9:(fr x (r+1)).code=(fr x r).code+1∨((fr x (r+1)).code=(fr x r).code∧¬ r+1=0):=hk
   refine ⟨?_,by omega,by omega⟩
   show (fr x (r+1)).code=(fr x r).code∨(fr x (r+1)).code=(fr x r).code+1
   omega
theorem UpTo.mono {x:R.Mc} {k:Nat} (h:UpTo x k) {i:Nat}:∀ j,i≤j→j < k→(fr x i).code≤(fr x j).code
 | 0,h1,_=>by
  obtain rfl:i=0:=by omega
  exact Int.le_refl _
 | j+1,h1,h2=>by
  by_cases e:i=j+1
  ·subst e;exact Int.le_refl _
  ·have h3:=UpTo.mono h (i:=i) j (by omega) (by omega)
   have h4:(fr x (j+1)).code=(fr x j).code∨(fr x (j+1)).code=(fr x j).code+1:=(h (j+1) h2).1
   omega
theorem UpTo.range {x:R.Mc} (h:UpTo x x.frames.length) (h1:1≤x.frames.length) (hl:(fr x (x.frames.length - 1)).code=(x.codes.length:Int) - 1):∀ k,k < x.frames.length→UpOk x k∧(0≤(fr x k).code∧(fr x k).code < x.codes.length):=fun k hk=>by
 have h2:=h.mono (i:=k) (x.frames.length - 1) (by omega) (by omega)
 have h3:=h k hk
 exact ⟨h3.1,h3.2.1,by omega⟩
set_option maxHeartbeats 20000000 in
theorem framesI_any (x:R.Mc) {v0 v1 v2 v3 v4 v5:Value} {B:Nat} (w:World) (h:MK B w x v0 v1 v2 v3 v4 v5) (hx:R.OkFmS x.frames) (hlf:R.LoFmS x.frames) (hlc:R.LoCdS x.codes) (hoc:R.OkCdS x.codes) (hE:EnvI w) (hcl9:x.codes.length≤1000) :
  Calls Tryz.prog 37 #[mval x v0 v1 v2 v3 v4 v5] w fun e w'=>Says e (CodesOk x∧FramesOk x)∧Below w.heap.size w w':=by
 have HK:=hid h
 obtain ⟨gf,rfl⟩:=h.k3.sl
 obtain ⟨gc,rfl⟩:=h.k0.sl
 have HOX:=hid hx
 have HLF:=hid hlf
 have HLC:=hid hlc
 have HOC:=hid hoc
 have HE:=hid hE
 have hfl:x.frames.length≤1048576:=hlf.1
 have hcl:=hlc.1
 clear h hx hlf hlc hoc hE
 go_enter Tryz.func37,Tryz.ntmps37
 go_upto_region 1 with fail
 have HX:=hid (MX.start w x (.slice (some ⟨gc,0,none⟩) x.codes.length x.codes.length) v1 v2 (.slice (some ⟨gf,0,none⟩) x.frames.length x.frames.length) v4 v5)
 obtain ⟨W1,hW1⟩:∃ W,w.alloc (.cells #[.slice (some ⟨gc,0,none⟩) x.codes.length x.codes.length,v1,v2,.slice (some ⟨gf,0,none⟩) x.frames.length x.frames.length,.int .i64 x.steps,.int .i64 x.looks,.int .i64 x.kind,.string x.name,.string x.hold,.bool x.over,.int .i64 x.fin,.string x.text,v4,v5] 34)=W:=⟨_,rfl⟩
 rw [hW1] at HX ⊢
 clear hW1
 have m3:=fun p:J.Gr W1=>(HX.out.next p.h).c3
 have m0:=fun p:J.Gr W1=>(HX.out.next p.h).c0
 have hne2:Nonempty (J.Gr W1):=⟨⟨W1,Below.refl _ _⟩⟩
 by_cases q1:1≤x.frames.length∧x.frames.length≤40
 ·have Q1:=hid q1
  have z1:((x.frames.length:Int) == 0)=false:=beq_eq_false_iff_ne.2 (by omega)
  have z2:¬ ((x.frames.length:Int) > 40):=by omega
  have hlast:x.frames.length - 1 < x.frames.length:=by omega
  have HN1:Hid ((x.frames.length:Int) - 1=((x.frames.length - 1:Nat):Int)):=hid (by omega)
  clear q1
  obtain ⟨_,s0,t0,e0,_⟩:=fm_at (HK.out.next HX.out.lo).k3 hlast
  have hgf:gf < W1.heap.size:=by assumption
  obtain ⟨ln,hln⟩:∃ z,x.frames.length - 1=z:=⟨_,rfl⟩
  rw [hln] at e0 hlast HN1
  have HLN:=hid hln
  clear hln
  have HFE:Hid ((fr x (x.frames.length - 1)).code=(x.frames.getD ln R.fm0).code):=hid (by rw [HLN.out];rfl)
  obtain ⟨lc,hlc⟩:∃ z,(x.frames.getD ln R.fm0).code=z:=⟨_,rfl⟩
  rw [hlc] at e0 HFE
  clear hlc
  have k4:=fun p:J.Gr W1=>(p.h.cell (p:=⟨gf,ln * 5,none⟩) hgf).trans e0
  have n1:(x.frames.length:Int) - 1=(ln:Int):=HN1.out
  have hli:(ln:Int) < (x.frames.length:Int):=by omega
  by_cases q2:lc=(x.codes.length:Int) - 1
  ·have b2:(lc != (x.codes.length:Int) - 1)=false:=by simpa using q2
   have Q2:Hid ((fr x (x.frames.length - 1)).code=(x.codes.length:Int) - 1):=hid (by rw [HFE.out];exact q2)
   clear q2 e0
   refine J.wp_region_gr (by kernel_rfl) (by kernel_rfl) ?_
   repeat (go_big_quiet_step (fail))
   refine wpQuiet_nil ?_
   intro _ hw'
   obtain ⟨pw,rfl⟩:=hw'
   have HX2:=hid (HX.out.next pw.h)
   obtain ⟨W2,hW2⟩:∃ W,pw.W=W:=⟨_,rfl⟩
   rw [hW2] at HX2 ⊢
   clear hW2 m3 m0 hne2 k4 z1 z2 b2 n1 hli
   have c3:=HX2.out.c3
   go_upto_region 4 with fail
   clear c3
   go_loopw [38] (fun i wr=>∃ k:Nat,k≤x.frames.length∧i=.int .i64 k∧MX w x (.slice (some ⟨gc,0,none⟩) x.codes.length x.codes.length) v1 v2 (.slice (some ⟨gf,0,none⟩) x.frames.length x.frames.length) v4 v5 wr∧UpTo x k) (fun i _=>x.frames.length - (intOf i).toNat)
   case atStart=>exact ⟨0,Nat.zero_le _,rfl,HX2.out,fun i h=>absurd h (Nat.not_lt_zero _)⟩
   case round =>
    obtain ⟨k,hk,rfl,hx3,hall⟩:=hrel
    have HX3:=hid hx3
    have HALL:=hid hall
    clear hx3 hall
    by_cases hlt:k < x.frames.length
    ·have hki:(k:Int) < (x.frames.length:Int):=by omega
     have HUP:=hid (up_any x wr (HK.out.next HX3.out.lo) HOX.out hlt (HALL.out.bound (by have:=Q1.out;omega)) hfl)
     by_cases h1:(fr x k).code=was x k+1
     ·have HST:=hid (HALL.out.step (.inl h1))
      have H1:=hid h1
      clear h1
      go_wp2_with (first | (refine wpList_load_row rfl 34 _ rfl w.heap.size rfl 34 #[.slice (some ⟨gc,0,none⟩) x.codes.length x.codes.length,v1,v2,.slice (some ⟨gf,0,none⟩) x.frames.length x.frames.length,.int .i64 x.steps,.int .i64 x.looks,.int .i64 x.kind,.string x.name,.string x.hold,.bool x.over,.int .i64 x.fin,.string x.text,v4,v5] (0,0) _ HX3.out.e Tryz.underlying34 rfl (by kernel_rfl) ?_) | (go_at_call 66;refine HUP.out.mono ?_;rintro e w4 ⟨⟨u,rfl,hu1,hu0⟩,hb4⟩;obtain rfl:u=1:=hu1.2 H1.out;have HX4:=hid (HX3.out.next hb4);clear hu1 hu0 hb4))
      go_roundw
      case rel=>exact ⟨k+1,by omega,by go_num,HX4.out,HST.out⟩
      case measure=>simp [intOf];omega
     ·by_cases h0:(fr x k).code=was x k
      ·by_cases hz:k=0
       ·subst hz
        have HNO:Hid (¬ (CodesOk x∧FramesOk x)):=hid fun h=>by
         have h8:=h.2.2.2.1 0 hlt
         have h7:=h8.2.1.1
         have h6:(fr x 0).code=-1:=h0
         omega
        have H0:=hid h0
        have HN1:=hid h1
        clear h0 h1
        go_wp2_with (first | (refine wpList_load_row rfl 34 _ rfl w.heap.size rfl 34 #[.slice (some ⟨gc,0,none⟩) x.codes.length x.codes.length,v1,v2,.slice (some ⟨gf,0,none⟩) x.frames.length x.frames.length,.int .i64 x.steps,.int .i64 x.looks,.int .i64 x.kind,.string x.name,.string x.hold,.bool x.over,.int .i64 x.fin,.string x.text,v4,v5] (0,0) _ HX3.out.e Tryz.underlying34 rfl (by kernel_rfl) ?_) | (go_at_call 66;refine HUP.out.mono ?_;rintro e w4 ⟨⟨u,rfl,hu1,hu0⟩,hb4⟩;obtain rfl:u=0:=hu0.2 H0.out;have HX4:=hid (HX3.out.next hb4);clear hu1 hu0 hb4))
        go_ret
        exact ⟨says_f HNO.out,HX4.out.lo⟩
       ·have HST:=hid (HALL.out.step (.inr ⟨h0,hz⟩))
        have hzb:((k:Int) == 0)=false:=by simp;omega
        have H0:=hid h0
        clear h0 h1 hz
        go_wp2_with (first | (refine wpList_load_row rfl 34 _ rfl w.heap.size rfl 34 #[.slice (some ⟨gc,0,none⟩) x.codes.length x.codes.length,v1,v2,.slice (some ⟨gf,0,none⟩) x.frames.length x.frames.length,.int .i64 x.steps,.int .i64 x.looks,.int .i64 x.kind,.string x.name,.string x.hold,.bool x.over,.int .i64 x.fin,.string x.text,v4,v5] (0,0) _ HX3.out.e Tryz.underlying34 rfl (by kernel_rfl) ?_) | (go_at_call 66;refine HUP.out.mono ?_;rintro e w4 ⟨⟨u,rfl,hu1,hu0⟩,hb4⟩;obtain rfl:u=0:=hu0.2 H0.out;have HX4:=hid (HX3.out.next hb4);clear hu1 hu0 hb4))
        go_roundw
        case rel=>exact ⟨k+1,by omega,by go_num,HX4.out,HST.out⟩
        case measure=>simp [intOf];omega
      ·have HNO:Hid (¬ (CodesOk x∧FramesOk x)):=hid fun h=>by
        have h8:=(h.2.2.2.1 k hlt).1
        unfold UpOk at h8
        rcases h8 with h8 | h8
        ·exact h0 h8
        ·exact h1 h8
       have H0:=hid h0
       have H1:=hid h1
       clear h0 h1
       go_wp2_with (first | (refine wpList_load_row rfl 34 _ rfl w.heap.size rfl 34 #[.slice (some ⟨gc,0,none⟩) x.codes.length x.codes.length,v1,v2,.slice (some ⟨gf,0,none⟩) x.frames.length x.frames.length,.int .i64 x.steps,.int .i64 x.looks,.int .i64 x.kind,.string x.name,.string x.hold,.bool x.over,.int .i64 x.fin,.string x.text,v4,v5] (0,0) _ HX3.out.e Tryz.underlying34 rfl (by kernel_rfl) ?_) | (go_at_call 66;refine HUP.out.mono ?_;rintro e w4 ⟨⟨u,rfl,hu1,hu0⟩,hb4⟩;have hu3:(u != 1)=true:=by { have:=H1.out;simp;omega };have hu4:(u != 0)=true:=by { have:=H0.out;simp;omega };have HX4:=hid (HX3.out.next hb4);clear hu1 hu0 hb4))
       go_ret
       exact ⟨says_f HNO.out,HX4.out.lo⟩
    ·obtain rfl:k=x.frames.length:=by omega
     have hki:¬ ((x.frames.length:Int) < (x.frames.length:Int)):=by omega
     have HRG:=hid (HALL.out.range Q1.out.1 Q2.out)
     clear hlt
     have HSTD:=hid (stands_any x wr (HK.out.next HX3.out.lo) (HE.out.next HX3.out.lo) HLC.out HOC.out hfl)
     go_wp2_with (first | (refine wpList_load_row rfl 34 _ rfl w.heap.size rfl 34 #[.slice (some ⟨gc,0,none⟩) x.codes.length x.codes.length,v1,v2,.slice (some ⟨gf,0,none⟩) x.frames.length x.frames.length,.int .i64 x.steps,.int .i64 x.looks,.int .i64 x.kind,.string x.name,.string x.hold,.bool x.over,.int .i64 x.fin,.string x.text,v4,v5] (0,0) _ HX3.out.e Tryz.underlying34 rfl (by kernel_rfl) ?_) | (go_at_call 67;refine HSTD.out.mono ?_;rintro e w5 ⟨hcs,hb5⟩;have HX5:=hid (HX3.out.next hb5);clear hb5;rcases hcs with ⟨g,S,rfl,hr5,hck,hst⟩ | ⟨rfl,hno⟩))
     ·have HR5:=hid hr5
      have HCK:=hid hck
      have HST:=hid hst
      clear hr5 hck hst
      go_wp2_with fail
      go_loopw [64] (fun i wr=>∃ k:Nat,k≤x.frames.length∧i=.int .i64 k∧MX w x (.slice (some ⟨gc,0,none⟩) x.codes.length x.codes.length) v1 v2 (.slice (some ⟨gf,0,none⟩) x.frames.length x.frames.length) v4 v5 wr∧StR wr g x.frames.length S∧∀ i,i < k→RngOk x i∧FrameOk x i) (fun i _=>x.frames.length - (intOf i).toNat)
      case atStart=>exact ⟨0,Nat.zero_le _,rfl,HX5.out,HR5.out,fun i h=>absurd h (Nat.not_lt_zero _)⟩
      case round =>
       obtain ⟨k,hk,rfl,hx6,hr6,hal2⟩:=hrel
       have HX6:=hid hx6
       have HR6:=hid hr6
       have HAL2:=hid hal2
       clear hx6 hr6 hal2
       by_cases hlt:k < x.frames.length
       ·have hki2:(k:Int) < (x.frames.length:Int):=by omega
        obtain ⟨⟨u0,u1,u2,u3,u4,u5,u6⟩,_⟩:=HR6.out.at hlt
        have HSA:Hid (StoodAt x k (S k)):=hid (HST.out k hlt)
        obtain ⟨sk,hsk⟩:∃ s,S k=s:=⟨_,rfl⟩
        rw [hsk] at u0 u1 u2 u3 u4 u5 u6 HSA
        clear hsk
        obtain ⟨st,sl,sk,jo,ja,jn,jt⟩:=sk
        dsimp only at u0 u1 u2 u3 u4 u5 u6
        go_upto_region 16 with fail
        have HAL:=hid ((Below.refl wr.heap.size wr).alloc (Nat.le_refl _) (.cells #[.int .i64 st,.string sl,.string sk,.int .i64 jo,.int .i64 ja,.int .i64 jn,.string jt] 105))
        have HX7:=hid (HX6.out.next HAL.out)
        have HR7:=hid (HR6.out.next HAL.out)
        have HNB:Hid ((wr.alloc (.cells #[.int .i64 st,.string sl,.string sk,.int .i64 jo,.int .i64 ja,.int .i64 jn,.string jt] 105)).heap[wr.heap.size]?=some (.cells #[.int .i64 st,.string sl,.string sk,.int .i64 jo,.int .i64 ja,.int .i64 jn,.string jt] 105)):=hid (heap_alloc_new _ _)
        obtain ⟨W7,hW7⟩:∃ W,wr.alloc (.cells #[.int .i64 st,.string sl,.string sk,.int .i64 jo,.int .i64 ja,.int .i64 jn,.string jt] 105)=W:=⟨_,rfl⟩
        rw [hW7] at HAL HX7 HR7 HNB ⊢
        obtain ⟨nb,hnb⟩:∃ b,wr.heap.size=b:=⟨_,rfl⟩
        rw [hnb] at HNB ⊢
        clear hW7 hnb u0 u1 u2 u3 u4 u5 u6
        have HFI:=hid (frameI_any x W7 (HK.out.next HX7.out.lo) HOX.out HLF.out HLC.out HCK.out hcl9 HRG.out hlt st sl sk jo ja jn jt HSA.out)
        by_cases q9:RngOk x k∧FrameOk x k
        ·have HT:=hid (says_tr HFI.out q9)
         have HST2:Hid (∀ i,i < k+1→RngOk x i∧FrameOk x i):=hid fun i hi=>by
          rcases Nat.lt_or_ge i k with h9 | h9
          ·exact HAL2.out i h9
          ·obtain rfl:i=k:=by omega
           exact q9
         clear q9
         go_wp2_with (first | (refine wpList_load_row rfl 34 _ rfl w.heap.size rfl 34 #[.slice (some ⟨gc,0,none⟩) x.codes.length x.codes.length,v1,v2,.slice (some ⟨gf,0,none⟩) x.frames.length x.frames.length,.int .i64 x.steps,.int .i64 x.looks,.int .i64 x.kind,.string x.name,.string x.hold,.bool x.over,.int .i64 x.fin,.string x.text,v4,v5] (0,0) _ HX7.out.e Tryz.underlying34 rfl (by kernel_rfl) ?_) | (refine wpList_load_row rfl 105 _ rfl nb rfl 105 #[.int .i64 st,.string sl,.string sk,.int .i64 jo,.int .i64 ja,.int .i64 jn,.string jt] (0,0) _ HNB.out Tryz.underlying105 rfl (by kernel_rfl) ?_) | (go_at_call 68;refine HT.out.mono ?_;rintro e w8 ⟨rfl,hb8⟩;have HX8:=hid (HX7.out.next hb8);have HR8:=hid (HR7.out.next hb8);clear hb8))
         go_roundw
         case rel=>exact ⟨k+1,by omega,by go_num,HX8.out,HR8.out,HST2.out⟩
         case measure=>simp [intOf];omega
        ·have HT:=hid (says_fa HFI.out q9)
         have Q9:=hid q9
         clear q9
         go_wp2_with (first | (refine wpList_load_row rfl 34 _ rfl w.heap.size rfl 34 #[.slice (some ⟨gc,0,none⟩) x.codes.length x.codes.length,v1,v2,.slice (some ⟨gf,0,none⟩) x.frames.length x.frames.length,.int .i64 x.steps,.int .i64 x.looks,.int .i64 x.kind,.string x.name,.string x.hold,.bool x.over,.int .i64 x.fin,.string x.text,v4,v5] (0,0) _ HX7.out.e Tryz.underlying34 rfl (by kernel_rfl) ?_) | (refine wpList_load_row rfl 105 _ rfl nb rfl 105 #[.int .i64 st,.string sl,.string sk,.int .i64 jo,.int .i64 ja,.int .i64 jn,.string jt] (0,0) _ HNB.out Tryz.underlying105 rfl (by kernel_rfl) ?_) | (go_at_call 68;refine HT.out.mono ?_;rintro e w8 ⟨rfl,hb8⟩;have HX8:=hid (HX7.out.next hb8);clear hb8))
         go_ret
         exact ⟨says_f fun h=>Q9.out ⟨(h.2.2.2.1 k hlt).2,h.2.2.2.2 k hlt⟩,HX8.out.lo⟩
       ·obtain rfl:k=x.frames.length:=by omega
        have hki2:¬ ((x.frames.length:Int) < (x.frames.length:Int)):=by omega
        clear hlt
        go_wp2_with fail
        go_ret
        exact ⟨says_t ⟨HCK.out,Q1.out,Q2.out,fun k hk=>⟨(HALL.out k hk).1,(HAL2.out k hk).1⟩,fun k hk=>(HAL2.out k hk).2⟩,HX6.out.lo⟩
     ·have HNO:=hid hno
      clear hno
      go_wp2_with fail
      go_ret
      exact ⟨says_f fun h=>HNO.out h.1,HX5.out.lo⟩
  ·have b2:(lc != (x.codes.length:Int) - 1)=true:=by simpa using q2
   have Q2:=hid q2
   clear q2 e0
   refine J.wp_region_gr (by kernel_rfl) (by kernel_rfl) ?_
   repeat (go_big_quiet_step (fail))
   refine wpQuiet_nil ?_
   intro _ hw'
   obtain ⟨pw,rfl⟩:=hw'
   have HB9:=hid ((HX.out.next pw.h).lo)
   clear m3 m0 hne2 k4
   go_wp2_with fail
   go_ret
   exact ⟨says_f fun h=>Q2.out (by have:=h.2.2.1;rwa [HFE.out] at this),HB9.out⟩
 ·have Q1:=hid q1
  by_cases z:x.frames.length=0
  ·have z1:((x.frames.length:Int) == 0)=true:=beq_iff_eq.2 (by omega)
   clear q1 z
   refine J.wp_region_gr (by kernel_rfl) (by kernel_rfl) ?_
   repeat (go_big_quiet_step (fail))
   refine wpQuiet_nil ?_
   intro _ hw'
   obtain ⟨pw,rfl⟩:=hw'
   have HB9:=hid ((HX.out.next pw.h).lo)
   clear m3 m0 hne2
   go_wp2_with fail
   go_ret
   exact ⟨says_f fun h=>Q1.out h.2.1,HB9.out⟩
  ·have z1:((x.frames.length:Int) == 0)=false:=beq_eq_false_iff_ne.2 (by omega)
   have z2:(x.frames.length:Int) > 40:=by omega
   clear q1 z
   refine J.wp_region_gr (by kernel_rfl) (by kernel_rfl) ?_
   repeat (go_big_quiet_step (fail))
   refine wpQuiet_nil ?_
   intro _ hw'
   obtain ⟨pw,rfl⟩:=hw'
   have HB9:=hid ((HX.out.next pw.h).lo)
   clear m3 m0 hne2
   go_wp2_with fail
   go_ret
   exact ⟨says_f fun h=>Q1.out h.2.1,HB9.out⟩
end Go.Proofs.YtbkmglknbflkhaaGreatDoor.M
