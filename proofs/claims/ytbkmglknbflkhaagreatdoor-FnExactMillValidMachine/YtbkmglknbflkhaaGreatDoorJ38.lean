import Derived.Test.YtbkmglknbflkhaaGreatDoorJ37
import Derived.Test.YtbkmglknbflkhaaGreatDoorJ31
import Derived.Test.YtbkmglknbflkhaaGreatDoorJ32
import Derived.Test.YtbkmglknbflkhaaGreatDoorJ35
import Derived.Test.YtbkmglknbflkhaaGreatDoorJ34
namespace Go.Proofs.YtbkmglknbflkhaaGreatDoor.M
open Go.RowKit
open C (In in0 fn0 inV sig)
open Go.Proofs.YtbkmglknbflkhaaGreatDoor.J (Says says_t says_f)
open Go.Proofs.YtbkmglknbflkhaaGreatDoor.R (hid)
set_option maxRecDepth 20000
theorem plain_of {fns:List C.Fn} (h:C.Chk fns 0 0 0):C.Plain fns 0 0 0:=by
 cases h with
 | plain _ _ _ h h0=>exact absurd rfl h0
 | ok h _=>exact h
theorem fnok_of {fns:List C.Fn} (h:C.Plain fns 0 0 0):(∀ j,j < fns.length→C.FnOk fns j)∧∃ j,j < fns.length∧C.isMain (fns.getD j fn0):=by
 cases h with
 | ok _ h0 _ j hj h2=>exact ⟨h0,j,hj,h2⟩
theorem main_one {fns:List C.Fn} (h:C.Plain fns 0 0 0) {i j:Nat} (hi:i < fns.length) (hj:j < fns.length) (mi:C.isMain (fns.getD i fn0)) (mj:C.isMain (fns.getD j fn0)):i=j:=by
 obtain ⟨h0,_⟩:=fnok_of h
 rcases Nat.lt_trichotomy i j with h1 | h1 | h1
 ·exact absurd (mi.1.trans mj.1.symm) ((h0 j hj).once i h1)
 ·exact h1
 ·exact absurd (mj.1.trans mi.1.symm) ((h0 i hi).once j h1)
theorem in_gr (n lo hi:Int) (w:World) {b:Bool} (hb:C.inB n lo hi=b):Calls Tryz.prog 22 #[.int .i64 n,.int .i64 lo,.int .i64 hi] w fun e w'=>e=.returned (.bool b)∧Below w.heap.size w w' :=
 (C.l16In_any n lo hi w).mono fun _ _ h=>⟨by rw [h.1,hb],by rw [h.2];exact Below.refl _ _⟩
theorem inB_t {n lo hi:Int} (h:lo≤n∧n≤hi):C.inB n lo hi=true:=by unfold C.inB;simp [h]
theorem inB_f {n lo hi:Int} (h:¬ (lo≤n∧n≤hi)):C.inB n lo hi=false:=by
 cases h2:C.inB n lo hi
 ·rfl
 ·exact absurd (by unfold C.inB at h2;simpa using h2) h
set_option maxHeartbeats 20000000 in
theorem specFrames_any (x:R.Mc) {v0 v1 v2 v3 v4 v5:Value} {B:Nat} (w:World) (h:MK B w x v0 v1 v2 v3 v4 v5) (hl:x.frames.length≤1048576) (hlc:R.LoCdS x.codes) (hok:∀ c,c < x.codes.length→C.Chk (x.codes.getD c R.cd0).fns 0 0 0)
  (hfr:∀ (k:Nat) (W:World),MK B W x v0 v1 v2 v3 v4 v5→k < x.frames.length→(∀ k,k < x.frames.length→UpOk x k∧RngOk x k)→Calls Tryz.prog 56 #[mval x v0 v1 v2 v3 v4 v5,.int .i64 k] W fun e w'=>Says e (FrameOk x k)∧Below W.heap.size W w') :
  Calls Tryz.prog 27 #[mval x v0 v1 v2 v3 v4 v5] w fun e w'=>Says e (FramesOk x)∧Below w.heap.size w w':=by
 have HK:=hid h
 obtain ⟨gf,rfl⟩:=h.k3.sl
 obtain ⟨gc,rfl⟩:=h.k0.sl
 have HLC:=hid hlc
 have HOK:=hid hok
 have HFR:=hid hfr
 have hcl:=hlc.1
 clear h hlc hok hfr
 go_enter Tryz.func27,Tryz.ntmps27
 go_upto_region 1 with fail
 have HX:=hid (MX.start w x (.slice (some ⟨gc,0,none⟩) x.codes.length x.codes.length) v1 v2 (.slice (some ⟨gf,0,none⟩) x.frames.length x.frames.length) v4 v5)
 obtain ⟨W1,hW1⟩:∃ W,w.alloc (.cells #[.slice (some ⟨gc,0,none⟩) x.codes.length x.codes.length,v1,v2,.slice (some ⟨gf,0,none⟩) x.frames.length x.frames.length,.int .i64 x.steps,.int .i64 x.looks,.int .i64 x.kind,.string x.name,.string x.hold,.bool x.over,.int .i64 x.fin,.string x.text,v4,v5] 34)=W:=⟨_,rfl⟩
 rw [hW1] at HX ⊢
 clear hW1
 have c3:=HX.out.c3
 go_upto_region 2 with fail
 clear c3
 have m3:=fun p:J.Gr W1=>(HX.out.next p.h).c3
 have m0:=fun p:J.Gr W1=>(HX.out.next p.h).c0
 have hne2:Nonempty (J.Gr W1):=⟨⟨W1,Below.refl _ _⟩⟩
 by_cases q1:1≤x.frames.length∧x.frames.length≤40
 ·have HIN:=hid fun W=>in_gr (x.frames.length:Int) 1 40 W (inB_t (by omega))
  have Q1:=hid q1
  have hz1:(1:Int)≤(x.frames.length:Int):=by omega
  have hlast:x.frames.length - 1 < x.frames.length:=by omega
  have HN1:Hid ((x.frames.length:Int) - 1=((x.frames.length - 1:Nat):Int)):=hid (by omega)
  clear q1
  obtain ⟨_,s0,t0,e0,_⟩:=fm_at (HK.out.next HX.out.lo).k3 hlast
  have hgf:gf < W1.heap.size:=by assumption
  obtain ⟨ln,hln⟩:∃ z,x.frames.length - 1=z:=⟨_,rfl⟩
  rw [hln] at e0 hlast HN1
  have HLN:=hid hln
  clear hln
  have HFE:Hid ((fr x (x.frames.length - 1)).code=(x.frames.getD ln R.fm0).code):=hid (by rw [HLN.out];rfl)
  obtain ⟨lc,hlc⟩:∃ z,(x.frames.getD ln R.fm0).code=z:=⟨_,rfl⟩
  rw [hlc] at e0 HFE
  clear hlc
  have k4:=fun p:J.Gr W1=>(p.h.cell (p:=⟨gf,ln * 5,none⟩) hgf).trans e0
  have n1:(x.frames.length:Int) - 1=(ln:Int):=HN1.out
  have hli:(ln:Int) < (x.frames.length:Int):=by omega
  by_cases q2:lc=(x.codes.length:Int) - 1
  ·have b2:(lc != (x.codes.length:Int) - 1)=false:=by simpa using q2
   have Q2:Hid ((fr x (x.frames.length - 1)).code=(x.codes.length:Int) - 1):=hid (by rw [HFE.out];exact q2)
   clear q2 e0
   refine J.wp_region_gr (by kernel_rfl) (by kernel_rfl) ?_
   repeat (go_big_quiet_step (first | (go_at_call 22;refine J.Calls.gr_of (v:=.bool true) fun _=>?_;exact HIN.out _)))
   refine wpQuiet_nil ?_
   intro _ hw'
   obtain ⟨pw,rfl⟩:=hw'
   have HX2:=hid (HX.out.next pw.h)
   obtain ⟨W2,hW2⟩:∃ W,pw.W=W:=⟨_,rfl⟩
   rw [hW2] at HX2 ⊢
   clear hW2 m3 m0 hne2 k4
   go_upto_region 5 with fail
   go_loopw [4] (fun i wr=>∃ k:Nat,k≤x.frames.length∧i=.int .i64 k∧MX w x (.slice (some ⟨gc,0,none⟩) x.codes.length x.codes.length) v1 v2 (.slice (some ⟨gf,0,none⟩) x.frames.length x.frames.length) v4 v5 wr∧∀ i,i < k→UpOk x i∧RngOk x i) (fun i _=>x.frames.length - (intOf i).toNat)
   case atStart=>exact ⟨0,Nat.zero_le _,rfl,HX2.out,fun i h=>absurd h (Nat.not_lt_zero _)⟩
   case round =>
    obtain ⟨k,hk,rfl,hx3,hall⟩:=hrel
    have HX3:=hid hx3
    have HALL:=hid hall
    clear hx3 hall
    by_cases hlt:k < x.frames.length
    ·have hki:(k:Int) < (x.frames.length:Int):=by omega
     have c3:=HX3.out.c3
     match k,hk,hlt,hki,HALL with
     | 0,hk,hlt,hki,HALL =>
      obtain ⟨_,s,t,d0,d1,d2,d3,d4,hs,ht⟩:=fm_at (HK.out.next HX3.out.lo).k3 hlt
      obtain ⟨gs,rfl⟩:=hs.sl
      obtain ⟨gt,rfl⟩:=ht.sl
      clear hs ht
      obtain ⟨f,hf⟩:∃ f,fr x 0=f:=⟨_,rfl⟩
      have HF:=hid hf
      rw [show x.frames.getD 0 R.fm0=f from hf] at d0 d1 d2 d3 d4
      clear hf
      have c3b:=(HX3.out.next ((Below.refl wr.heap.size wr).alloc (Nat.le_refl _) (.cells #[.int .i64 f.code,.int .i64 f.fn,.int .i64 f.pl,.slice (some ⟨gs,0,none⟩) f.slots.length f.slots.length,.slice (some ⟨gt,0,none⟩) f.stack.length f.stack.length] 86))).c3
      go_upto_region 11 with fail
      have HNB:Hid ((wr.alloc (.cells #[.int .i64 f.code,.int .i64 f.fn,.int .i64 f.pl,.slice (some ⟨gs,0,none⟩) f.slots.length f.slots.length,.slice (some ⟨gt,0,none⟩) f.stack.length f.stack.length] 86)).heap[wr.heap.size]?=some (.cells #[.int .i64 f.code,.int .i64 f.fn,.int .i64 f.pl,.slice (some ⟨gs,0,none⟩) f.slots.length f.slots.length,.slice (some ⟨gt,0,none⟩) f.stack.length f.stack.length] 86)):=hid (heap_alloc_new _ _)
      have HX2:=hid (HX3.out.next ((Below.refl _ _).alloc (Nat.le_refl _) (.cells #[.int .i64 f.code,.int .i64 f.fn,.int .i64 f.pl,.slice (some ⟨gs,0,none⟩) f.slots.length f.slots.length,.slice (some ⟨gt,0,none⟩) f.stack.length f.stack.length] 86)))
      obtain ⟨W2,hW2⟩:∃ W,wr.alloc (.cells #[.int .i64 f.code,.int .i64 f.fn,.int .i64 f.pl,.slice (some ⟨gs,0,none⟩) f.slots.length f.slots.length,.slice (some ⟨gt,0,none⟩) f.stack.length f.stack.length] 86)=W:=⟨_,rfl⟩
      rw [hW2] at HNB HX2 ⊢
      obtain ⟨nb,hnb⟩:∃ b,wr.heap.size=b:=⟨_,rfl⟩
      rw [hnb] at HNB ⊢
      clear hW2 hnb c3 c3b d0 d1 d2 d3 d4
      have HWS:Hid (was x 0=-1):=hid rfl
      have HWB:Hid (-1≤(-1:Int)∧(-1:Int)≤2000000):=hid (by omega)
      have k0:=fun p:J.Gr W2=>(C.cell_hp (C.hp_next HNB.out p.h) 0:p.W.cell? ⟨nb,0,none⟩=some (.int .i64 f.code))
      have k1:=fun p:J.Gr W2=>(C.cell_hp (C.hp_next HNB.out p.h) 1:p.W.cell? ⟨nb,1,none⟩=some (.int .i64 f.fn))
      have m0:=fun p:J.Gr W2=>(HX2.out.next p.h).c0
      have hne2:Nonempty (J.Gr W2):=⟨⟨W2,Below.refl _ _⟩⟩
      obtain ⟨fc,hfc⟩:∃ z,f.code=z:=⟨_,rfl⟩
      obtain ⟨ff,hff⟩:∃ z,f.fn=z:=⟨_,rfl⟩
      have HFC:Hid ((fr x 0).code=fc∧(fr x 0).fn=ff):=hid ⟨by rw [HF.out];exact hfc,by rw [HF.out];exact hff⟩
      rw [hfc] at k0
      rw [hff] at k1
      clear hfc hff
      have hw1:wrap64 ((0:Int))=(0:Int):=by have:=HWB.out;unfold wrap64;omega
      by_cases u1:fc=(-1:Int)∨fc=(0:Int)
      ·have U1:=hid u1
       by_cases u2:0≤fc∧fc < x.codes.length
       ·have U2:=hid u2
        obtain ⟨cc,hcc⟩:∃ n:Nat,fc=n:=⟨fc.toNat,by omega⟩
        have hcl2:cc < x.codes.length:=by omega
        have hcli:(cc:Int) < (x.codes.length:Int):=by omega
        subst hcc
        have HI1:=hid fun W=>in_gr (cc:Int) 0 ((x.codes.length:Int) - 1) W (inB_t (by omega))
        obtain ⟨hgc,fv,g0,hfns⟩:=cd_at (HK.out.next HX2.out.lo).k0 hcl2
        have HFV:=hid hfns
        obtain ⟨gn,rfl⟩:=hfns.sl
        have HFO:Hid (fnsOf x (fr x 0).code=(x.codes.getD cc R.cd0).fns):=hid (by unfold fnsOf;rw [HFC.out.1];rfl)
        have HLF:=hid (HLC.out.2 cc hcl2)
        have HCK:=hid (HOK.out cc hcl2)
        obtain ⟨fns,hfe⟩:∃ l,(x.codes.getD cc R.cd0).fns=l:=⟨_,rfl⟩
        rw [hfe] at g0 HFO HFV HCK
        have HLF2:Hid (R.LoFnS fns):=hid (by have:=HLF.out;unfold R.LoCd at this;rwa [hfe] at this)
        clear hfe hfns u1 u2
        have k2:=fun p:J.Gr W2=>(p.h.cell (p:=⟨gc,cc,none⟩) hgc).trans g0
        have hfl:=HLF2.out.1
        have HPAST:Hid (UpOk x 0):=hid (by unfold UpOk;rw [HFC.out.1,HWS.out];exact U1.out)
        by_cases u3:(cc:Int)=(-1:Int)
        ·skip
         have hu:((cc:Int) != (-1:Int))=false:=by first | (simp;done) | (simp;omega)
         have U3:=hid u3
         clear u3
         by_cases u4:0≤ff∧ff < fns.length
         ·have U4:=hid u4
          have HI2:=hid fun W=>in_gr ff 0 ((fns.length:Int) - 1) W (inB_t (by omega))
          clear u4
          refine J.wp_region_gr (by kernel_rfl) (by kernel_rfl) ?_
          repeat (go_big_quiet_step (first | (go_at_call_of 22 (Value.int IntKind.i64 (cc:Int));refine J.Calls.gr_of (v:=.bool true) fun _=>?_;exact HI1.out _) | (go_at_call_of 22 (Value.int IntKind.i64 ff);refine J.Calls.gr_of (v:=.bool true) fun _=>?_;exact HI2.out _)))
          refine wpQuiet_nil ?_
          intro _ hw'
          obtain ⟨pw,rfl⟩:=hw'
          have g5:=k2 pw
          have HFV5:=hid (HFV.out.next pw.h)
          have HX5:=hid (HX2.out.next pw.h)
          have HN5:=hid (C.hp_next HNB.out pw.h)
          obtain ⟨W5,hW5⟩:∃ W,pw.W=W:=⟨_,rfl⟩
          rw [hW5] at HX5 HN5 g5 HFV5 ⊢
          clear hW5 k0 k1 k2 m0 hne2
          go_upto_region 13 with fail
          have m0:=fun p:J.Gr W5=>(HX5.out.next p.h).c0
          have hne2:Nonempty (J.Gr W5):=⟨⟨W5,Below.refl _ _⟩⟩
          have k0:∀ p:J.Gr W5,p.W.cell? ⟨nb,0,none⟩=some (.int .i64 (cc:Int)):=fun p=>(C.cell_hp (C.hp_next HN5.out p.h) 0).trans (by rw [← HFC.out.1,HF.out];rfl)
          have k1:∀ p:J.Gr W5,p.W.cell? ⟨nb,1,none⟩=some (.int .i64 ff):=fun p=>(C.cell_hp (C.hp_next HN5.out p.h) 1).trans (by rw [← HFC.out.2,HF.out];rfl)
          have HSTEP:Hid (RngOk x 0→∀ i,i < 0+1→UpOk x i∧RngOk x i):=hid fun hr i hi=>by
           rcases Nat.lt_or_ge i 0 with h9 | h9
           ·exact HALL.out i h9
           ·obtain rfl:i=0:=by omega
            exact ⟨HPAST.out,hr⟩
          refine J.wp_region_gr (by kernel_rfl) (by kernel_rfl) ?_
          repeat (go_big_quiet_step (fail))
          refine wpQuiet_nil ?_
          intro _ hw'
          obtain ⟨pw2,rfl⟩:=hw'
          have HX6:=hid (HX5.out.next pw2.h)
          have HNX:=hid (HSTEP.out ⟨by rw [HFC.out.1];exact ⟨by omega,by omega⟩,by rw [HFO.out,HFC.out.2];exact U4.out,fun h9=>absurd (by rw [HFC.out.1,HWS.out];exact U3.out) h9⟩)
          clear k0 k1 m0 hne2
          go_wp2_with fail
          go_roundw
          case rel=>exact ⟨0+1,by omega,by go_num,HX6.out,HNX.out⟩
          case measure=>simp [intOf];omega
         ·have HI2:=hid fun W=>in_gr ff 0 ((fns.length:Int) - 1) W (inB_f (by omega))
          have U4:=hid u4
          clear u4
          refine J.wp_region_gr (by kernel_rfl) (by kernel_rfl) ?_
          repeat (go_big_quiet_step (first | (go_at_call_of 22 (Value.int IntKind.i64 (cc:Int));refine J.Calls.gr_of (v:=.bool true) fun _=>?_;exact HI1.out _) | (go_at_call_of 22 (Value.int IntKind.i64 ff);refine J.Calls.gr_of (v:=.bool false) fun _=>?_;exact HI2.out _)))
          refine wpQuiet_nil ?_
          intro _ hw'
          obtain ⟨pw,rfl⟩:=hw'
          have HB9:=hid ((HX2.out.next pw.h).lo)
          clear k0 k1 k2 m0 hne2
          go_wp2_with fail
          go_ret
          exact ⟨says_f fun h=>U4.out (by have:=(h.2.2.1 0 hlt).2.2.1;rwa [HFO.out,HFC.out.2] at this),HB9.out⟩
        ·skip
         have hu:((cc:Int) != (-1:Int))=true:=by first | (simp;done) | (simp;omega)
         have hu2:((cc:Int) != (0:Int))=false:=by have:=U1.out;first | (simp;done) | (simp;omega)
         have U3:=hid u3
         clear u3
         by_cases u4:0≤ff∧ff < fns.length
         ·have U4:=hid u4
          have HI2:=hid fun W=>in_gr ff 0 ((fns.length:Int) - 1) W (inB_t (by omega))
          clear u4
          refine J.wp_region_gr (by kernel_rfl) (by kernel_rfl) ?_
          repeat (go_big_quiet_step (first | (go_at_call_of 22 (Value.int IntKind.i64 (cc:Int));refine J.Calls.gr_of (v:=.bool true) fun _=>?_;exact HI1.out _) | (go_at_call_of 22 (Value.int IntKind.i64 ff);refine J.Calls.gr_of (v:=.bool true) fun _=>?_;exact HI2.out _)))
          refine wpQuiet_nil ?_
          intro _ hw'
          obtain ⟨pw,rfl⟩:=hw'
          have g5:=k2 pw
          have HFV5:=hid (HFV.out.next pw.h)
          have HX5:=hid (HX2.out.next pw.h)
          have HN5:=hid (C.hp_next HNB.out pw.h)
          obtain ⟨W5,hW5⟩:∃ W,pw.W=W:=⟨_,rfl⟩
          rw [hW5] at HX5 HN5 g5 HFV5 ⊢
          clear hW5 k0 k1 k2 m0 hne2
          go_upto_region 13 with fail
          have m0:=fun p:J.Gr W5=>(HX5.out.next p.h).c0
          have hne2:Nonempty (J.Gr W5):=⟨⟨W5,Below.refl _ _⟩⟩
          have k0:∀ p:J.Gr W5,p.W.cell? ⟨nb,0,none⟩=some (.int .i64 (cc:Int)):=fun p=>(C.cell_hp (C.hp_next HN5.out p.h) 0).trans (by rw [← HFC.out.1,HF.out];rfl)
          have k1:∀ p:J.Gr W5,p.W.cell? ⟨nb,1,none⟩=some (.int .i64 ff):=fun p=>(C.cell_hp (C.hp_next HN5.out p.h) 1).trans (by rw [← HFC.out.2,HF.out];rfl)
          have HSTEP:Hid (RngOk x 0→∀ i,i < 0+1→UpOk x i∧RngOk x i):=hid fun hr i hi=>by
           rcases Nat.lt_or_ge i 0 with h9 | h9
           ·exact HALL.out i h9
           ·obtain rfl:i=0:=by omega
            exact ⟨HPAST.out,hr⟩
          have hgc5:gc < W5.heap.size:=World.block_lt_of_cell? W5 _ g5
          have k2:=fun p:J.Gr W5=>(p.h.cell (p:=⟨gc,cc,none⟩) hgc5).trans g5
          obtain ⟨_,mi,hmi,hmm⟩:=fnok_of (plain_of HCK.out)
          have HMM:=hid hmm
          have h60:=(C.plain_right (plain_of HCK.out)).2.2
          have HMC:=hid fun (p:J.Gr W5)=>(C.main_any (C.fnsRow_of (HFV5.out.next p.h) HLF2.out) h60).mono (R':=fun e w'=>e=.returned (.int .i64 (mi:Int))∧Below p.W.heap.size p.W w') fun e w' hh=>by
           obtain ⟨z,rfl,hz,hb⟩:=hh
           refine ⟨?_,hb⟩
           rcases hz with ⟨_,hz⟩ | ⟨j9,hj9,rfl,hz⟩
           ·exact absurd hmm (hz mi hmi)
           ·rw [main_one (plain_of HCK.out) hj9 hmi hz hmm]
          clear hmm
          by_cases u5:ff=(mi:Int)
          ·have hu5:(ff != (mi:Int))=false:=by simp;omega
           have U5:=hid u5
           clear u5
           refine J.wp_region_gr (by kernel_rfl) (by kernel_rfl) ?_
           repeat (go_big_quiet_step (first | (go_at_call 55;refine J.Calls.gr_of (v:=.int .i64 (mi:Int)) fun h9=>?_;exact HMC.out ⟨_,h9⟩)))
           refine wpQuiet_nil ?_
           intro _ hw'
           obtain ⟨pw2,rfl⟩:=hw'
           have HX6:=hid (HX5.out.next pw2.h)
           have HNX:=hid (HSTEP.out ⟨by rw [HFC.out.1];exact ⟨by omega,by omega⟩,by rw [HFO.out,HFC.out.2];exact U4.out,fun _=>by unfold fnOf;rw [HFO.out,HFC.out.2,U5.out];exact HMM.out⟩)
           clear k0 k1 k2 m0 hne2
           go_wp2_with fail
           go_roundw
           case rel=>exact ⟨0+1,by omega,by go_num,HX6.out,HNX.out⟩
           case measure=>simp [intOf];omega
          ·have hu5:(ff != (mi:Int))=true:=by simp;omega
           have U5:=hid u5
           clear u5
           refine J.wp_region_gr (by kernel_rfl) (by kernel_rfl) ?_
           repeat (go_big_quiet_step (first | (go_at_call 55;refine J.Calls.gr_of (v:=.int .i64 (mi:Int)) fun h9=>?_;exact HMC.out ⟨_,h9⟩)))
           refine wpQuiet_nil ?_
           intro _ hw'
           obtain ⟨pw2,rfl⟩:=hw'
           have HB9:=hid ((HX5.out.next pw2.h).lo)
           clear k0 k1 k2 m0 hne2
           go_wp2_with fail
           go_ret
           exact ⟨says_f fun h=>U5.out (by
            have h8:=(h.2.2.1 0 hlt).2.2.2 (by rw [HFC.out.1,HWS.out];exact U3.out)
            unfold fnOf at h8
            rw [HFO.out,HFC.out.2] at h8
            have h7:=main_one (plain_of HCK.out) (show ff.toNat < fns.length by have:=U4.out;omega) hmi h8 HMM.out
            have:=U4.out;omega),HB9.out⟩
         ·have HI2:=hid fun W=>in_gr ff 0 ((fns.length:Int) - 1) W (inB_f (by omega))
          have U4:=hid u4
          clear u4
          refine J.wp_region_gr (by kernel_rfl) (by kernel_rfl) ?_
          repeat (go_big_quiet_step (first | (go_at_call_of 22 (Value.int IntKind.i64 (cc:Int));refine J.Calls.gr_of (v:=.bool true) fun _=>?_;exact HI1.out _) | (go_at_call_of 22 (Value.int IntKind.i64 ff);refine J.Calls.gr_of (v:=.bool false) fun _=>?_;exact HI2.out _)))
          refine wpQuiet_nil ?_
          intro _ hw'
          obtain ⟨pw,rfl⟩:=hw'
          have HB9:=hid ((HX2.out.next pw.h).lo)
          clear k0 k1 k2 m0 hne2
          go_wp2_with fail
          go_ret
          exact ⟨says_f fun h=>U4.out (by have:=(h.2.2.1 0 hlt).2.2.1;rwa [HFO.out,HFC.out.2] at this),HB9.out⟩
       ·have HI1:=hid fun W=>in_gr fc 0 ((x.codes.length:Int) - 1) W (inB_f (by omega))
        have U2:=hid u2
        clear u2
        by_cases u3:fc=(-1:Int)
        ·have hu:(fc != (-1:Int))=false:=by first | (simp;done) | (simp;omega)
         clear u3 u1
         refine J.wp_region_gr (by kernel_rfl) (by kernel_rfl) ?_
         repeat (go_big_quiet_step (first | (go_at_call 22;refine J.Calls.gr_of (v:=.bool false) fun _=>?_;exact HI1.out _)))
         refine wpQuiet_nil ?_
         intro _ hw'
         obtain ⟨pw,rfl⟩:=hw'
         have HB9:=hid ((HX2.out.next pw.h).lo)
         clear k0 k1 m0 hne2
         go_wp2_with fail
         go_ret
         exact ⟨says_f fun h=>U2.out (by have:=(h.2.2.1 0 hlt).2.1;rwa [HFC.out.1] at this),HB9.out⟩
        ·have hu:(fc != (-1:Int))=true:=by first | (simp;done) | (simp;omega)
         have hu2:(fc != (0:Int))=false:=by have:=U1.out;first | (simp;done) | (simp;omega)
         clear u3 u1
         refine J.wp_region_gr (by kernel_rfl) (by kernel_rfl) ?_
         repeat (go_big_quiet_step (first | (go_at_call 22;refine J.Calls.gr_of (v:=.bool false) fun _=>?_;exact HI1.out _)))
         refine wpQuiet_nil ?_
         intro _ hw'
         obtain ⟨pw,rfl⟩:=hw'
         have HB9:=hid ((HX2.out.next pw.h).lo)
         clear k0 k1 m0 hne2
         go_wp2_with fail
         go_ret
         exact ⟨says_f fun h=>U2.out (by have:=(h.2.2.1 0 hlt).2.1;rwa [HFC.out.1] at this),HB9.out⟩
      ·have hu:(fc != (-1:Int))=true:=by first | (simp;done) | (simp;omega)
       have hu2:(fc != (0:Int))=true:=by first | (simp;done) | (simp;omega)
       have U1:=hid u1
       clear u1
       refine J.wp_region_gr (by kernel_rfl) (by kernel_rfl) ?_
       repeat (go_big_quiet_step (fail))
       refine wpQuiet_nil ?_
       intro _ hw'
       obtain ⟨pw,rfl⟩:=hw'
       have HB9:=hid ((HX2.out.next pw.h).lo)
       clear k0 k1 m0 hne2
       go_wp2_with fail
       go_ret
       exact ⟨says_f fun h=>U1.out (by have:=(h.2.2.1 0 hlt).1;unfold UpOk at this;rwa [HFC.out.1,HWS.out] at this),HB9.out⟩
     | r+1,hk,hlt,hki,HALL =>
      obtain ⟨_,s,t,d0,d1,d2,d3,d4,hs,ht⟩:=fm_at (HK.out.next HX3.out.lo).k3 hlt
      obtain ⟨gs,rfl⟩:=hs.sl
      obtain ⟨gt,rfl⟩:=ht.sl
      clear hs ht
      obtain ⟨f,hf⟩:∃ f,fr x (r+1)=f:=⟨_,rfl⟩
      have HF:=hid hf
      rw [show x.frames.getD (r+1) R.fm0=f from hf] at d0 d1 d2 d3 d4
      clear hf
      obtain ⟨_,s2,t2,e0,_⟩:=fm_at (HK.out.next HX3.out.lo).k3 (show r < x.frames.length by omega)
      obtain ⟨ws,hws⟩:∃ z,(fr x r).code=z:=⟨_,rfl⟩
      rw [show (x.frames.getD r R.fm0).code=ws from hws] at e0
      have HWS:Hid (was x (r+1)=ws):=hid hws
      have HWB:Hid (-1≤ws∧ws≤2000000):=hid (by have h9:=(HALL.out r (by omega)).2.1;rw [hws] at h9;omega)
      clear hws
      have e1:(r:Int)+1 - 1=(r:Int):=by omega
      have hrl:(r:Int) < (x.frames.length:Int):=by omega
      have hgfr:gf < wr.heap.size:=by assumption
      have ee:=((Below.refl wr.heap.size wr).alloc (Nat.le_refl _) (.cells #[.int .i64 f.code,.int .i64 f.fn,.int .i64 f.pl,.slice (some ⟨gs,0,none⟩) f.slots.length f.slots.length,.slice (some ⟨gt,0,none⟩) f.stack.length f.stack.length] 86)).cell (p:=⟨gf,r * 5,none⟩) hgfr
      have e0:=ee.trans e0
      clear ee
      have c3b:=(HX3.out.next ((Below.refl wr.heap.size wr).alloc (Nat.le_refl _) (.cells #[.int .i64 f.code,.int .i64 f.fn,.int .i64 f.pl,.slice (some ⟨gs,0,none⟩) f.slots.length f.slots.length,.slice (some ⟨gt,0,none⟩) f.stack.length f.stack.length] 86))).c3
      go_upto_region 11 with fail
      have HNB:Hid ((wr.alloc (.cells #[.int .i64 f.code,.int .i64 f.fn,.int .i64 f.pl,.slice (some ⟨gs,0,none⟩) f.slots.length f.slots.length,.slice (some ⟨gt,0,none⟩) f.stack.length f.stack.length] 86)).heap[wr.heap.size]?=some (.cells #[.int .i64 f.code,.int .i64 f.fn,.int .i64 f.pl,.slice (some ⟨gs,0,none⟩) f.slots.length f.slots.length,.slice (some ⟨gt,0,none⟩) f.stack.length f.stack.length] 86)):=hid (heap_alloc_new _ _)
      have HX2:=hid (HX3.out.next ((Below.refl _ _).alloc (Nat.le_refl _) (.cells #[.int .i64 f.code,.int .i64 f.fn,.int .i64 f.pl,.slice (some ⟨gs,0,none⟩) f.slots.length f.slots.length,.slice (some ⟨gt,0,none⟩) f.stack.length f.stack.length] 86)))
      obtain ⟨W2,hW2⟩:∃ W,wr.alloc (.cells #[.int .i64 f.code,.int .i64 f.fn,.int .i64 f.pl,.slice (some ⟨gs,0,none⟩) f.slots.length f.slots.length,.slice (some ⟨gt,0,none⟩) f.stack.length f.stack.length] 86)=W:=⟨_,rfl⟩
      rw [hW2] at HNB HX2 ⊢
      obtain ⟨nb,hnb⟩:∃ b,wr.heap.size=b:=⟨_,rfl⟩
      rw [hnb] at HNB ⊢
      clear hW2 hnb c3 c3b d0 d1 d2 d3 d4 e0
      have k0:=fun p:J.Gr W2=>(C.cell_hp (C.hp_next HNB.out p.h) 0:p.W.cell? ⟨nb,0,none⟩=some (.int .i64 f.code))
      have k1:=fun p:J.Gr W2=>(C.cell_hp (C.hp_next HNB.out p.h) 1:p.W.cell? ⟨nb,1,none⟩=some (.int .i64 f.fn))
      have m0:=fun p:J.Gr W2=>(HX2.out.next p.h).c0
      have hne2:Nonempty (J.Gr W2):=⟨⟨W2,Below.refl _ _⟩⟩
      obtain ⟨fc,hfc⟩:∃ z,f.code=z:=⟨_,rfl⟩
      obtain ⟨ff,hff⟩:∃ z,f.fn=z:=⟨_,rfl⟩
      have HFC:Hid ((fr x (r+1)).code=fc∧(fr x (r+1)).fn=ff):=hid ⟨by rw [HF.out];exact hfc,by rw [HF.out];exact hff⟩
      rw [hfc] at k0
      rw [hff] at k1
      clear hfc hff
      have hw1:wrap64 (ws+1)=ws+1:=by have:=HWB.out;unfold wrap64;omega
      by_cases u1:fc=ws∨fc=ws+1
      ·have U1:=hid u1
       by_cases u2:0≤fc∧fc < x.codes.length
       ·have U2:=hid u2
        obtain ⟨cc,hcc⟩:∃ n:Nat,fc=n:=⟨fc.toNat,by omega⟩
        have hcl2:cc < x.codes.length:=by omega
        have hcli:(cc:Int) < (x.codes.length:Int):=by omega
        subst hcc
        have HI1:=hid fun W=>in_gr (cc:Int) 0 ((x.codes.length:Int) - 1) W (inB_t (by omega))
        obtain ⟨hgc,fv,g0,hfns⟩:=cd_at (HK.out.next HX2.out.lo).k0 hcl2
        have HFV:=hid hfns
        obtain ⟨gn,rfl⟩:=hfns.sl
        have HFO:Hid (fnsOf x (fr x (r+1)).code=(x.codes.getD cc R.cd0).fns):=hid (by unfold fnsOf;rw [HFC.out.1];rfl)
        have HLF:=hid (HLC.out.2 cc hcl2)
        have HCK:=hid (HOK.out cc hcl2)
        obtain ⟨fns,hfe⟩:∃ l,(x.codes.getD cc R.cd0).fns=l:=⟨_,rfl⟩
        rw [hfe] at g0 HFO HFV HCK
        have HLF2:Hid (R.LoFnS fns):=hid (by have:=HLF.out;unfold R.LoCd at this;rwa [hfe] at this)
        clear hfe hfns u1 u2
        have k2:=fun p:J.Gr W2=>(p.h.cell (p:=⟨gc,cc,none⟩) hgc).trans g0
        have hfl:=HLF2.out.1
        have HPAST:Hid (UpOk x (r+1)):=hid (by unfold UpOk;rw [HFC.out.1,HWS.out];exact U1.out)
        by_cases u3:(cc:Int)=ws
        ·skip
         have hu:((cc:Int) != ws)=false:=by first | (simp;done) | (simp;omega)
         have U3:=hid u3
         clear u3
         by_cases u4:0≤ff∧ff < fns.length
         ·have U4:=hid u4
          have HI2:=hid fun W=>in_gr ff 0 ((fns.length:Int) - 1) W (inB_t (by omega))
          clear u4
          refine J.wp_region_gr (by kernel_rfl) (by kernel_rfl) ?_
          repeat (go_big_quiet_step (first | (go_at_call_of 22 (Value.int IntKind.i64 (cc:Int));refine J.Calls.gr_of (v:=.bool true) fun _=>?_;exact HI1.out _) | (go_at_call_of 22 (Value.int IntKind.i64 ff);refine J.Calls.gr_of (v:=.bool true) fun _=>?_;exact HI2.out _)))
          refine wpQuiet_nil ?_
          intro _ hw'
          obtain ⟨pw,rfl⟩:=hw'
          have g5:=k2 pw
          have HFV5:=hid (HFV.out.next pw.h)
          have HX5:=hid (HX2.out.next pw.h)
          have HN5:=hid (C.hp_next HNB.out pw.h)
          obtain ⟨W5,hW5⟩:∃ W,pw.W=W:=⟨_,rfl⟩
          rw [hW5] at HX5 HN5 g5 HFV5 ⊢
          clear hW5 k0 k1 k2 m0 hne2
          go_upto_region 13 with fail
          have m0:=fun p:J.Gr W5=>(HX5.out.next p.h).c0
          have hne2:Nonempty (J.Gr W5):=⟨⟨W5,Below.refl _ _⟩⟩
          have k0:∀ p:J.Gr W5,p.W.cell? ⟨nb,0,none⟩=some (.int .i64 (cc:Int)):=fun p=>(C.cell_hp (C.hp_next HN5.out p.h) 0).trans (by rw [← HFC.out.1,HF.out];rfl)
          have k1:∀ p:J.Gr W5,p.W.cell? ⟨nb,1,none⟩=some (.int .i64 ff):=fun p=>(C.cell_hp (C.hp_next HN5.out p.h) 1).trans (by rw [← HFC.out.2,HF.out];rfl)
          have HSTEP:Hid (RngOk x (r+1)→∀ i,i < (r+1)+1→UpOk x i∧RngOk x i):=hid fun hr i hi=>by
           rcases Nat.lt_or_ge i (r+1) with h9 | h9
           ·exact HALL.out i h9
           ·obtain rfl:i=(r+1):=by omega
            exact ⟨HPAST.out,hr⟩
          refine J.wp_region_gr (by kernel_rfl) (by kernel_rfl) ?_
          repeat (go_big_quiet_step (fail))
          refine wpQuiet_nil ?_
          intro _ hw'
          obtain ⟨pw2,rfl⟩:=hw'
          have HX6:=hid (HX5.out.next pw2.h)
          have HNX:=hid (HSTEP.out ⟨by rw [HFC.out.1];exact ⟨by omega,by omega⟩,by rw [HFO.out,HFC.out.2];exact U4.out,fun h9=>absurd (by rw [HFC.out.1,HWS.out];exact U3.out) h9⟩)
          clear k0 k1 m0 hne2
          go_wp2_with fail
          go_roundw
          case rel=>exact ⟨(r+1)+1,by omega,by go_num,HX6.out,HNX.out⟩
          case measure=>simp [intOf];omega
         ·have HI2:=hid fun W=>in_gr ff 0 ((fns.length:Int) - 1) W (inB_f (by omega))
          have U4:=hid u4
          clear u4
          refine J.wp_region_gr (by kernel_rfl) (by kernel_rfl) ?_
          repeat (go_big_quiet_step (first | (go_at_call_of 22 (Value.int IntKind.i64 (cc:Int));refine J.Calls.gr_of (v:=.bool true) fun _=>?_;exact HI1.out _) | (go_at_call_of 22 (Value.int IntKind.i64 ff);refine J.Calls.gr_of (v:=.bool false) fun _=>?_;exact HI2.out _)))
          refine wpQuiet_nil ?_
          intro _ hw'
          obtain ⟨pw,rfl⟩:=hw'
          have HB9:=hid ((HX2.out.next pw.h).lo)
          clear k0 k1 k2 m0 hne2
          go_wp2_with fail
          go_ret
          exact ⟨says_f fun h=>U4.out (by have:=(h.2.2.1 (r+1) hlt).2.2.1;rwa [HFO.out,HFC.out.2] at this),HB9.out⟩
        ·skip
         have hu:((cc:Int) != ws)=true:=by first | (simp;done) | (simp;omega)
         have hu2:((cc:Int) != ws+1)=false:=by have:=U1.out;first | (simp;done) | (simp;omega)
         have U3:=hid u3
         clear u3
         by_cases u4:0≤ff∧ff < fns.length
         ·have U4:=hid u4
          have HI2:=hid fun W=>in_gr ff 0 ((fns.length:Int) - 1) W (inB_t (by omega))
          clear u4
          refine J.wp_region_gr (by kernel_rfl) (by kernel_rfl) ?_
          repeat (go_big_quiet_step (first | (go_at_call_of 22 (Value.int IntKind.i64 (cc:Int));refine J.Calls.gr_of (v:=.bool true) fun _=>?_;exact HI1.out _) | (go_at_call_of 22 (Value.int IntKind.i64 ff);refine J.Calls.gr_of (v:=.bool true) fun _=>?_;exact HI2.out _)))
          refine wpQuiet_nil ?_
          intro _ hw'
          obtain ⟨pw,rfl⟩:=hw'
          have g5:=k2 pw
          have HFV5:=hid (HFV.out.next pw.h)
          have HX5:=hid (HX2.out.next pw.h)
          have HN5:=hid (C.hp_next HNB.out pw.h)
          obtain ⟨W5,hW5⟩:∃ W,pw.W=W:=⟨_,rfl⟩
          rw [hW5] at HX5 HN5 g5 HFV5 ⊢
          clear hW5 k0 k1 k2 m0 hne2
          go_upto_region 13 with fail
          have m0:=fun p:J.Gr W5=>(HX5.out.next p.h).c0
          have hne2:Nonempty (J.Gr W5):=⟨⟨W5,Below.refl _ _⟩⟩
          have k0:∀ p:J.Gr W5,p.W.cell? ⟨nb,0,none⟩=some (.int .i64 (cc:Int)):=fun p=>(C.cell_hp (C.hp_next HN5.out p.h) 0).trans (by rw [← HFC.out.1,HF.out];rfl)
          have k1:∀ p:J.Gr W5,p.W.cell? ⟨nb,1,none⟩=some (.int .i64 ff):=fun p=>(C.cell_hp (C.hp_next HN5.out p.h) 1).trans (by rw [← HFC.out.2,HF.out];rfl)
          have HSTEP:Hid (RngOk x (r+1)→∀ i,i < (r+1)+1→UpOk x i∧RngOk x i):=hid fun hr i hi=>by
           rcases Nat.lt_or_ge i (r+1) with h9 | h9
           ·exact HALL.out i h9
           ·obtain rfl:i=(r+1):=by omega
            exact ⟨HPAST.out,hr⟩
          have hgc5:gc < W5.heap.size:=World.block_lt_of_cell? W5 _ g5
          have k2:=fun p:J.Gr W5=>(p.h.cell (p:=⟨gc,cc,none⟩) hgc5).trans g5
          obtain ⟨_,mi,hmi,hmm⟩:=fnok_of (plain_of HCK.out)
          have HMM:=hid hmm
          have h60:=(C.plain_right (plain_of HCK.out)).2.2
          have HMC:=hid fun (p:J.Gr W5)=>(C.main_any (C.fnsRow_of (HFV5.out.next p.h) HLF2.out) h60).mono (R':=fun e w'=>e=.returned (.int .i64 (mi:Int))∧Below p.W.heap.size p.W w') fun e w' hh=>by
           obtain ⟨z,rfl,hz,hb⟩:=hh
           refine ⟨?_,hb⟩
           rcases hz with ⟨_,hz⟩ | ⟨j9,hj9,rfl,hz⟩
           ·exact absurd hmm (hz mi hmi)
           ·rw [main_one (plain_of HCK.out) hj9 hmi hz hmm]
          clear hmm
          by_cases u5:ff=(mi:Int)
          ·have hu5:(ff != (mi:Int))=false:=by simp;omega
           have U5:=hid u5
           clear u5
           refine J.wp_region_gr (by kernel_rfl) (by kernel_rfl) ?_
           repeat (go_big_quiet_step (first | (go_at_call 55;refine J.Calls.gr_of (v:=.int .i64 (mi:Int)) fun h9=>?_;exact HMC.out ⟨_,h9⟩)))
           refine wpQuiet_nil ?_
           intro _ hw'
           obtain ⟨pw2,rfl⟩:=hw'
           have HX6:=hid (HX5.out.next pw2.h)
           have HNX:=hid (HSTEP.out ⟨by rw [HFC.out.1];exact ⟨by omega,by omega⟩,by rw [HFO.out,HFC.out.2];exact U4.out,fun _=>by unfold fnOf;rw [HFO.out,HFC.out.2,U5.out];exact HMM.out⟩)
           clear k0 k1 k2 m0 hne2
           go_wp2_with fail
           go_roundw
           case rel=>exact ⟨(r+1)+1,by omega,by go_num,HX6.out,HNX.out⟩
           case measure=>simp [intOf];omega
          ·have hu5:(ff != (mi:Int))=true:=by simp;omega
           have U5:=hid u5
           clear u5
           refine J.wp_region_gr (by kernel_rfl) (by kernel_rfl) ?_
           repeat (go_big_quiet_step (first | (go_at_call 55;refine J.Calls.gr_of (v:=.int .i64 (mi:Int)) fun h9=>?_;exact HMC.out ⟨_,h9⟩)))
           refine wpQuiet_nil ?_
           intro _ hw'
           obtain ⟨pw2,rfl⟩:=hw'
           have HB9:=hid ((HX5.out.next pw2.h).lo)
           clear k0 k1 k2 m0 hne2
           go_wp2_with fail
           go_ret
           exact ⟨says_f fun h=>U5.out (by
            have h8:=(h.2.2.1 (r+1) hlt).2.2.2 (by rw [HFC.out.1,HWS.out];exact U3.out)
            unfold fnOf at h8
            rw [HFO.out,HFC.out.2] at h8
            have h7:=main_one (plain_of HCK.out) (show ff.toNat < fns.length by have:=U4.out;omega) hmi h8 HMM.out
            have:=U4.out;omega),HB9.out⟩
         ·have HI2:=hid fun W=>in_gr ff 0 ((fns.length:Int) - 1) W (inB_f (by omega))
          have U4:=hid u4
          clear u4
          refine J.wp_region_gr (by kernel_rfl) (by kernel_rfl) ?_
          repeat (go_big_quiet_step (first | (go_at_call_of 22 (Value.int IntKind.i64 (cc:Int));refine J.Calls.gr_of (v:=.bool true) fun _=>?_;exact HI1.out _) | (go_at_call_of 22 (Value.int IntKind.i64 ff);refine J.Calls.gr_of (v:=.bool false) fun _=>?_;exact HI2.out _)))
          refine wpQuiet_nil ?_
          intro _ hw'
          obtain ⟨pw,rfl⟩:=hw'
          have HB9:=hid ((HX2.out.next pw.h).lo)
          clear k0 k1 k2 m0 hne2
          go_wp2_with fail
          go_ret
          exact ⟨says_f fun h=>U4.out (by have:=(h.2.2.1 (r+1) hlt).2.2.1;rwa [HFO.out,HFC.out.2] at this),HB9.out⟩
       ·have HI1:=hid fun W=>in_gr fc 0 ((x.codes.length:Int) - 1) W (inB_f (by omega))
        have U2:=hid u2
        clear u2
        by_cases u3:fc=ws
        ·have hu:(fc != ws)=false:=by first | (simp;done) | (simp;omega)
         clear u3 u1
         refine J.wp_region_gr (by kernel_rfl) (by kernel_rfl) ?_
         repeat (go_big_quiet_step (first | (go_at_call 22;refine J.Calls.gr_of (v:=.bool false) fun _=>?_;exact HI1.out _)))
         refine wpQuiet_nil ?_
         intro _ hw'
         obtain ⟨pw,rfl⟩:=hw'
         have HB9:=hid ((HX2.out.next pw.h).lo)
         clear k0 k1 m0 hne2
         go_wp2_with fail
         go_ret
         exact ⟨says_f fun h=>U2.out (by have:=(h.2.2.1 (r+1) hlt).2.1;rwa [HFC.out.1] at this),HB9.out⟩
        ·have hu:(fc != ws)=true:=by first | (simp;done) | (simp;omega)
         have hu2:(fc != ws+1)=false:=by have:=U1.out;first | (simp;done) | (simp;omega)
         clear u3 u1
         refine J.wp_region_gr (by kernel_rfl) (by kernel_rfl) ?_
         repeat (go_big_quiet_step (first | (go_at_call 22;refine J.Calls.gr_of (v:=.bool false) fun _=>?_;exact HI1.out _)))
         refine wpQuiet_nil ?_
         intro _ hw'
         obtain ⟨pw,rfl⟩:=hw'
         have HB9:=hid ((HX2.out.next pw.h).lo)
         clear k0 k1 m0 hne2
         go_wp2_with fail
         go_ret
         exact ⟨says_f fun h=>U2.out (by have:=(h.2.2.1 (r+1) hlt).2.1;rwa [HFC.out.1] at this),HB9.out⟩
      ·have hu:(fc != ws)=true:=by first | (simp;done) | (simp;omega)
       have hu2:(fc != ws+1)=true:=by first | (simp;done) | (simp;omega)
       have U1:=hid u1
       clear u1
       refine J.wp_region_gr (by kernel_rfl) (by kernel_rfl) ?_
       repeat (go_big_quiet_step (fail))
       refine wpQuiet_nil ?_
       intro _ hw'
       obtain ⟨pw,rfl⟩:=hw'
       have HB9:=hid ((HX2.out.next pw.h).lo)
       clear k0 k1 m0 hne2
       go_wp2_with fail
       go_ret
       exact ⟨says_f fun h=>U1.out (by have:=(h.2.2.1 (r+1) hlt).1;unfold UpOk at this;rwa [HFC.out.1,HWS.out] at this),HB9.out⟩
    ·obtain rfl:k=x.frames.length:=by omega
     have hki:¬ ((x.frames.length:Int) < (x.frames.length:Int)):=by omega
     clear hlt
     go_upto_region 15 with fail
     go_wp2_with fail
     go_loopw [7] (fun i wr=>∃ k:Nat,k≤x.frames.length∧i=.int .i64 k∧MX w x (.slice (some ⟨gc,0,none⟩) x.codes.length x.codes.length) v1 v2 (.slice (some ⟨gf,0,none⟩) x.frames.length x.frames.length) v4 v5 wr∧∀ i,i < k→FrameOk x i) (fun i _=>x.frames.length - (intOf i).toNat)
     case atStart=>exact ⟨0,Nat.zero_le _,rfl,HX3.out,fun i h=>absurd h (Nat.not_lt_zero _)⟩
     case round =>
      obtain ⟨k,hk,rfl,hx4,hal2⟩:=hrel
      have HX4:=hid hx4
      have HAL2:=hid hal2
      clear hx4 hal2
      by_cases hlt:k < x.frames.length
      ·have hki2:(k:Int) < (x.frames.length:Int):=by omega
       have HCF:=hid (HFR.out k wr (HK.out.next HX4.out.lo) hlt HALL.out)
       by_cases q9:FrameOk x k
       ·have HT:=hid (says_tr HCF.out q9)
        have HST:Hid (∀ i,i < k+1→FrameOk x i):=hid fun i hi=>by
         rcases Nat.lt_or_ge i k with h9 | h9
         ·exact HAL2.out i h9
         ·obtain rfl:i=k:=by omega
          exact q9
        clear q9
        go_wp2_with (first | (refine wpList_load_row rfl 34 _ rfl w.heap.size rfl 34 #[.slice (some ⟨gc,0,none⟩) x.codes.length x.codes.length,v1,v2,.slice (some ⟨gf,0,none⟩) x.frames.length x.frames.length,.int .i64 x.steps,.int .i64 x.looks,.int .i64 x.kind,.string x.name,.string x.hold,.bool x.over,.int .i64 x.fin,.string x.text,v4,v5] (0,0) _ HX4.out.e Tryz.underlying34 rfl (by kernel_rfl) ?_) | (go_at_call 56;refine HT.out.mono ?_;rintro e w5 ⟨rfl,hb5⟩;have HX5:=hid (HX4.out.next hb5);clear hb5))
        go_roundw
        case rel=>exact ⟨k+1,by omega,by go_num,HX5.out,HST.out⟩
        case measure=>simp [intOf];omega
       ·have HT:=hid (says_fa HCF.out q9)
        have Q9:=hid q9
        clear q9
        go_wp2_with (first | (refine wpList_load_row rfl 34 _ rfl w.heap.size rfl 34 #[.slice (some ⟨gc,0,none⟩) x.codes.length x.codes.length,v1,v2,.slice (some ⟨gf,0,none⟩) x.frames.length x.frames.length,.int .i64 x.steps,.int .i64 x.looks,.int .i64 x.kind,.string x.name,.string x.hold,.bool x.over,.int .i64 x.fin,.string x.text,v4,v5] (0,0) _ HX4.out.e Tryz.underlying34 rfl (by kernel_rfl) ?_) | (go_at_call 56;refine HT.out.mono ?_;rintro e w5 ⟨rfl,hb5⟩;have HX5:=hid (HX4.out.next hb5);clear hb5))
        go_ret
        exact ⟨says_f fun h=>Q9.out (h.2.2.2 k hlt),HX5.out.lo⟩
      ·obtain rfl:k=x.frames.length:=by omega
       have hki2:¬ ((x.frames.length:Int) < (x.frames.length:Int)):=by omega
       clear hlt
       go_wp2_with fail
       go_ret
       exact ⟨says_t ⟨Q1.out,Q2.out,HALL.out,HAL2.out⟩,HX4.out.lo⟩
  ·have b2:(lc != (x.codes.length:Int) - 1)=true:=by simpa using q2
   have Q2:=hid q2
   clear q2 e0
   refine J.wp_region_gr (by kernel_rfl) (by kernel_rfl) ?_
   repeat (go_big_quiet_step (first | (go_at_call 22;refine J.Calls.gr_of (v:=.bool true) fun _=>?_;exact HIN.out _)))
   refine wpQuiet_nil ?_
   intro _ hw'
   obtain ⟨pw,rfl⟩:=hw'
   have HB9:=hid ((HX.out.next pw.h).lo)
   clear m3 m0 hne2 k4
   go_wp2_with fail
   go_ret
   exact ⟨says_f fun h=>Q2.out (by have:=h.2.1;rwa [HFE.out] at this),HB9.out⟩
 ·have HIN:=hid fun W=>in_gr (x.frames.length:Int) 1 40 W (inB_f (by omega))
  have Q1:=hid q1
  clear q1
  refine J.wp_region_gr (by kernel_rfl) (by kernel_rfl) ?_
  repeat (go_big_quiet_step (first | (go_at_call 22;refine J.Calls.gr_of (v:=.bool false) fun _=>?_;exact HIN.out _)))
  refine wpQuiet_nil ?_
  intro _ hw'
  obtain ⟨pw,rfl⟩:=hw'
  have HB9:=hid ((HX.out.next pw.h).lo)
  clear m3 m0 hne2
  go_wp2_with fail
  go_ret
  exact ⟨says_f fun h=>Q1.out h.1,HB9.out⟩
end Go.Proofs.YtbkmglknbflkhaaGreatDoor.M
