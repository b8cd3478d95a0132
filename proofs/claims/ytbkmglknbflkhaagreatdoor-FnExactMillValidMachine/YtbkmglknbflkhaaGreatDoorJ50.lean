import Derived.Test.YtbkmglknbflkhaaGreatDoorJ47
namespace Go.Proofs.YtbkmglknbflkhaaGreatDoor.M
open Go.RowKit
open C (In Sh in0 fn0 kt Least Ok10 inV lt_hp cell_hp frozen_hp hp_next)
open Go.Proofs.YtbkmglknbflkhaaGreatDoor.J (Says says_t says_f)
open Go.Proofs.YtbkmglknbflkhaaGreatDoor.R (hid)
set_option maxRecDepth 20000
structure FI (w:World) (x:R.Mc) (v0 v1 v2 v3 v4 v5:Value) (st:Int) (sl sk:ByteArray) (jo ja jn:Int) (jt:ByteArray) (f:R.Fm) (s t:Value) (bf:Nat) (W:World):Prop where
 mx:MX w x v0 v1 v2 v3 v4 v5 W
 sb:W.heap[w.heap.size+1]?=some (.cells #[.int .i64 st,.string sl,.string sk,.int .i64 jo,.int .i64 ja,.int .i64 jn,.string jt] 105 (0,0))
 fb:W.heap[bf]?=some (.cells #[.int .i64 f.code,.int .i64 f.fn,.int .i64 f.pl,s,t] 86 (0,0))
theorem FI.next {w:World} {x:R.Mc} {v0 v1 v2 v3 v4 v5:Value} {st:Int} {sl sk:ByteArray} {jo ja jn:Int} {jt:ByteArray} {f:R.Fm} {s t:Value} {bf:Nat} {W V:World} (h:FI w x v0 v1 v2 v3 v4 v5 st sl sk jo ja jn jt f s t bf W) (hb:Below W.heap.size W V):FI w x v0 v1 v2 v3 v4 v5 st sl sk jo ja jn jt f s t bf V:=⟨h.mx.next hb,hp_next h.sb hb,hp_next h.fb hb⟩
set_option maxHeartbeats 40000000 in
theorem frameI_any (x:R.Mc) {v0 v1 v2 v3 v4 v5:Value} {B:Nat} (w:World) (h:MK B w x v0 v1 v2 v3 v4 v5) (hx:R.OkFmS x.frames) (hlf:R.LoFmS x.frames) (hlc:R.LoCdS x.codes) (hok:CodesOk x) (hcl9:x.codes.length≤1000)
  (hup:∀ k,k < x.frames.length→UpOk x k∧(0≤(fr x k).code∧(fr x k).code < x.codes.length)) {i:Nat} (hi:i < x.frames.length) (st:Int) (sl sk:ByteArray) (jo ja jn:Int) (jt:ByteArray) (hs:StoodAt x i ⟨st,sl,sk,⟨jo,ja,jn,jt⟩⟩) :
  Calls Tryz.prog 68 #[mval x v0 v1 v2 v3 v4 v5,.int .i64 i,.agg #[.int .i64 st,.string sl,.string sk,.int .i64 jo,.int .i64 ja,.int .i64 jn,.string jt]] w fun e w'=>Says e (RngOk x i∧FrameOk x i)∧Below w.heap.size w w':=by
 have HK:=hid h
 obtain ⟨gf,rfl⟩:=h.k3.sl
 obtain ⟨gc,rfl⟩:=h.k0.sl
 have HOX:=hid hx
 have HUP:=hid hup
 have HS:=hid hs
 have HAWP:Hid (i+1 < x.frames.length→(-1≤(fr x i).code∧(fr x i).code≤1000)∧UpOk x (i+1)):=hid fun h9=>⟨by have:=(hup i hi).2;omega,(hup (i+1) h9).1⟩
 have HWAS:Hid (-1≤was x i∧was x i≤1000):=hid (by
  cases i with
  | zero=>show -1≤(-1:Int)∧(-1:Int)≤1000;omega
  | succ r=>have:=(hup r (by omega)).2;show -1≤(fr x r).code∧(fr x r).code≤1000;omega)
 have hfl:x.frames.length≤1048576:=hlf.1
 have hcl:=hlc.1
 have hof:R.OkFm (fr x i):=hx.2 i hi
 have HOF:=hid hof
 have hlo:R.LoFm (fr x i):=hlf.2 i hi
 have HLF:=hid hlo
 have HOK:=hid hok
 have HLC:=hid hlc
 clear h hx hlf hup hs hof hlo hok hlc
 go_enter Tryz.func68,Tryz.ntmps68
 go_upto_region 1 with fail
 obtain ⟨t0,t1,hlo⟩:=two_at w (.cells #[.slice (some ⟨gc,0,none⟩) x.codes.length x.codes.length,v1,v2,.slice (some ⟨gf,0,none⟩) x.frames.length x.frames.length,.int .i64 x.steps,.int .i64 x.looks,.int .i64 x.kind,.string x.name,.string x.hold,.bool x.over,.int .i64 x.fin,.string x.text,v4,v5] 34) (.cells #[.int .i64 st,.string sl,.string sk,.int .i64 jo,.int .i64 ja,.int .i64 jn,.string jt] 105)
 obtain ⟨W1,hW1⟩:∃ W,((w.alloc (.cells #[.slice (some ⟨gc,0,none⟩) x.codes.length x.codes.length,v1,v2,.slice (some ⟨gf,0,none⟩) x.frames.length x.frames.length,.int .i64 x.steps,.int .i64 x.looks,.int .i64 x.kind,.string x.name,.string x.hold,.bool x.over,.int .i64 x.fin,.string x.text,v4,v5] 34)).alloc (.cells #[.int .i64 st,.string sl,.string sk,.int .i64 jo,.int .i64 ja,.int .i64 jn,.string jt] 105))=W:=⟨_,rfl⟩
 rw [hW1] at t0 t1 hlo ⊢
 have HX1:Hid (MX w x (.slice (some ⟨gc,0,none⟩) x.codes.length x.codes.length) v1 v2 (.slice (some ⟨gf,0,none⟩) x.frames.length x.frames.length) v4 v5 W1):=hid ⟨hlo,t0⟩
 have HSB:=hid t1
 clear hW1 t0 t1 hlo
 have s0:W1.cell? ⟨w.heap.size+1,0,none⟩=some (.int .i64 st):=cell_hp HSB.out 0
 by_cases hst:st=1
 ·subst hst
  obtain ⟨A,hrf,hL,hpl,hA1,hsl,hsk,hin⟩:=stood_one HS.out rfl
  simp only at hsl hsk hin
  have HRF:=hid hrf
  have HL:=hid hL
  have HPL:=hid hpl
  have HA1:=hid hA1
  have HIN:Hid ((⟨jo,ja,jn,jt⟩:In)=insAt x i A):=hid hin
  have HIFF:=hid (FrameOk.iff hL)
  obtain ⟨f,hfx⟩:∃ f,fr x i=f:=⟨_,rfl⟩
  have HFX:=hid hfx
  have hcr:=(HUP.out i hi).2
  obtain ⟨cc,hcc⟩:∃ n:Nat,(fr x i).code=n:=⟨(fr x i).code.toNat,by omega⟩
  have hcl2:cc < x.codes.length:=by omega
  obtain ⟨ff,hff⟩:∃ n:Nat,(fr x i).fn=n:=⟨(fr x i).fn.toNat,by omega⟩
  have hcck:C.Chk (x.codes.getD cc R.cd0).fns 0 0 0:=HOK.out cc hcl2
  have HCK:=hid hcck
  have HFO:Hid (fnsOf x (fr x i).code=(x.codes.getD cc R.cd0).fns):=hid (by unfold fnsOf;rw [hcc];rfl)
  have HLFN:Hid (R.LoFnS (x.codes.getD cc R.cd0).fns):=hid (HLC.out.2 cc hcl2)
  have hfn2:ff < (x.codes.getD cc R.cd0).fns.length:=by have:=HRF.out;rw [HFO.out,hff] at this;omega
  obtain ⟨fns,hfe⟩:∃ l,(x.codes.getD cc R.cd0).fns=l:=⟨_,rfl⟩
  rw [hfe] at HFO HCK HLFN hfn2 hcck
  have HFE:=hid hfe
  have HFN:Hid (fnOf x i=fns.getD ff fn0):=hid (by unfold fnOf;rw [HFO.out,hff];rfl)
  have HPN:=hid (plain_of HCK.out)
  have HFR:Hid (∀ g ∈ fns,C.FnR fns g):=hid (C.plain_right HPN.out).1
  have h60:=(C.plain_right HPN.out).2.2
  have hmem:fns.getD ff fn0 ∈ fns:=by rw [List.getD_eq_getElem?_getD,List.getElem?_eq_getElem hfn2];exact List.getElem_mem hfn2
  have HFF:=hid (HFR.out _ hmem)
  have HSH:=hid (ok10_sh (by have:=hL.2.ok _ (show (fr x i).pl.toNat < (fnOf x i).ins.length by omega);exact this) HA1.out)
  obtain ⟨K,hK⟩:∃ l,(A (fr x i).pl.toNat).sl=l:=⟨_,rfl⟩
  obtain ⟨T,hT⟩:∃ l,(A (fr x i).pl.toNat).sk=l:=⟨_,rfl⟩
  have HKT:Hid ((A (fr x i).pl.toNat).sl=K∧(A (fr x i).pl.toNat).sk=T):=hid ⟨hK,hT⟩
  rw [hK] at hsl HSH
  rw [hT] at hsk HSH
  have hst2:(A (fr x i).pl.toNat).sk=T:=hT
  subst hsl hsk
  clear hK hT hrf hL hpl hA1 hin hfe hcck
  have HSTK:Hid (∀ j,awaits x i=some j→Stands x i A→gives fns j→1≤T.length):=hid fun j hj hS hg=>by
   obtain ⟨h1,h2,h3⟩:=hS j hj
   obtain ⟨A2,hL2,hF2⟩:=fit_of HCK.out hfn2
   rw [← HFN.out,← HFO.out] at hL2 hF2
   have hF:∀ p,p < (fnOf x i).ins.length→¬ C.Unfit (fnsOf x (fr x i).code) (fnOf x i) A p:=fun p hp hU=>hF2 p hp (by unfold C.Unfit at hU ⊢;rw [← least_at HL.out hL2 hp];exact hU)
   have hp9:((fr x i).pl - 1).toNat+1=(fr x i).pl.toNat:=by omega
   obtain ⟨m,hm⟩:=stack_at HL.out hF (p:=((fr x i).pl - 1).toNat) (by have:=HPL.out;omega) h2 (by rw [hp9];exact HA1.out) (by rw [h3];exact (awaits_op hj).1)
   rw [hp9,HKT.out.2,h3] at hm
   obtain ⟨t,ht⟩:=giveT_gives.1 (show gives (fnsOf x (fr x i).code) j by rw [HFO.out];exact hg)
   rw [hm,ht];simp
  have HJA:Hid (∀ j,awaits x i=some j→Stands x i A→j.op=9→0≤j.a∧j.a < fns.length):=hid fun j hj hS h9=>by
   obtain ⟨h1,h2,h3⟩:=hS j hj
   have hq:((fr x i).pl - 1).toNat < (fnOf x i).ins.length:=by have:=HPL.out;omega
   have:=HFF.out.ins j (by rw [← HFN.out,← h3,List.getD_eq_getElem?_getD,List.getElem?_eq_getElem hq];exact List.getElem_mem hq)
   exact this.call h9
  clear hst2 hfx hcr
  obtain ⟨_,s,t,d0,d1,d2,d3,d4,hs,ht⟩:=fm_at (HK.out.next HX1.out.lo).k3 hi
  have HVS:=hid hs
  have HVT:=hid ht
  obtain ⟨gs,rfl⟩:=hs.sl
  obtain ⟨gt,rfl⟩:=ht.sl
  clear hs ht
  have hfr9:x.frames.getD i R.fm0=f:=HFX.out
  rw [hfr9] at d0 d1 d2 d3 d4 HVS HVT
  clear hfr9
  have c3:=HX1.out.c3
  have hii:(i:Int) < (x.frames.length:Int):=by omega
  rw [HFX.out] at hcc hff
  have HCF:=hid (And.intro hcc hff)
  clear hcc hff
  go_upto_region 4 with fail
  have HAL:=hid ((Below.refl W1.heap.size W1).alloc (Nat.le_refl _) (.cells #[.int .i64 f.code,.int .i64 f.fn,.int .i64 f.pl,.slice (some ⟨gs,0,none⟩) f.slots.length f.slots.length,.slice (some ⟨gt,0,none⟩) f.stack.length f.stack.length] 86))
  have HX2:Hid (FI w x (.slice (some ⟨gc,0,none⟩) x.codes.length x.codes.length) v1 v2 (.slice (some ⟨gf,0,none⟩) x.frames.length x.frames.length) v4 v5 1 (kt K) (kt T) jo ja jn jt f (.slice (some ⟨gs,0,none⟩) f.slots.length f.slots.length) (.slice (some ⟨gt,0,none⟩) f.stack.length f.stack.length) W1.heap.size (W1.alloc (.cells #[.int .i64 f.code,.int .i64 f.fn,.int .i64 f.pl,.slice (some ⟨gs,0,none⟩) f.slots.length f.slots.length,.slice (some ⟨gt,0,none⟩) f.stack.length f.stack.length] 86))):=hid ⟨HX1.out.next HAL.out,hp_next HSB.out HAL.out,heap_alloc_new _ _⟩
  have HVS2:=hid (HVS.out.next HAL.out)
  have HVT2:=hid (HVT.out.next HAL.out)
  obtain ⟨W2,hW2⟩:∃ W,W1.alloc (.cells #[.int .i64 f.code,.int .i64 f.fn,.int .i64 f.pl,.slice (some ⟨gs,0,none⟩) f.slots.length f.slots.length,.slice (some ⟨gt,0,none⟩) f.stack.length f.stack.length] 86)=W:=⟨_,rfl⟩
  rw [hW2] at HX2 HVS2 HVT2 ⊢
  obtain ⟨bf,hbf⟩:∃ b,W1.heap.size=b:=⟨_,rfl⟩
  rw [hbf] at HX2 ⊢
  clear hW2 hbf c3 d0 d1 d2 d3 d4 s0 HX1 HSB HVS HVT HAL
  have c0:=HX2.out.mx.c0
  have o0:W2.cell? ⟨bf,0,none⟩=some (.int .i64 (cc:Int)):=(cell_hp HX2.out.fb 0).trans (by rw [← HCF.out.1];rfl)
  obtain ⟨_,fv,g0,hfns⟩:=cd_at (HK.out.next HX2.out.mx.lo).k0 hcl2
  rw [HFE.out] at hfns
  have HFV:=hid hfns
  obtain ⟨gn,rfl⟩:=hfns.sl
  clear hfns
  have hcci:(cc:Int) < (x.codes.length:Int):=by omega
  go_upto_region 5 with fail
  clear c0 o0 g0 hcci
  have HFW:=hid (C.fnsRow_of HFV.out HLFN.out)
  obtain ⟨gn2,cn2,e9,hgn,pv,iv,n0,n1,n2,n3,n4,hpv,hiv⟩:=HFW.out.at hfn2
  injection e9 with ea en ec
  injection ea with ea2
  injection ea2 with ea3
  subst ea3
  clear en ec
  obtain ⟨aP,cP,rfl⟩:=hpv.sl
  clear hpv hiv
  obtain ⟨fn,hfn⟩:∃ q,fns.getD ff fn0=q:=⟨_,rfl⟩
  have HFQ:=hid hfn
  rw [hfn] at n0 n1 n2 n3 HFN HFF
  have HN5:Hid (∀ V,Below W2.heap.size W2 V→V.cell? ⟨gn,ff * 5,none⟩=some (.string fn.name)∧V.cell? ⟨gn,ff * 5+1,none⟩=some (.slice aP fn.params.length cP)∧V.cell? ⟨gn,ff * 5+2,none⟩=some (.int .i64 fn.result)∧V.cell? ⟨gn,ff * 5+3,none⟩=some (.int .i64 fn.slots)∧V.cell? ⟨gn,ff * 5+4,none⟩=some iv):=hid fun V hV=>⟨(hV.cell (p:=⟨gn,_,none⟩) hgn).trans n0,(hV.cell (p:=⟨gn,_,none⟩) hgn).trans n1,(hV.cell (p:=⟨gn,_,none⟩) hgn).trans n2,(hV.cell (p:=⟨gn,_,none⟩) hgn).trans n3,(hV.cell (p:=⟨gn,_,none⟩) hgn).trans n4⟩
  clear hfn n0 n1 n2 n3 n4 hmem
  have hffi:(ff:Int) < (fns.length:Int):=by omega
  have HGU:=hid (up_any x W2 (HK.out.next HX2.out.mx.lo) HOX.out hi HWAS.out hfl)
  have HCD:Hid ((fr x i).code=(cc:Int)∧(fr x i).fn=(ff:Int)):=hid (by rw [HFX.out];exact HCF.out)
  have HFF1:Hid (f.fn=(ff:Int)):=hid HCF.out.2
  by_cases hw9:(fr x i).code=was x i+1
  ·have HU1:=hid hw9
   have HWN:Hid (¬ (fr x i).code=was x i):=hid (by omega)
   clear hw9
   by_cases hm:C.isMain fn
   ·have HM:=hid hm
    have HRNG:Hid (RngOk x i):=hid ⟨(HUP.out i hi).2,HRF.out,fun _=>by rw [HFN.out];exact HM.out⟩
    clear hm
    go_upto_region 7 with (first | (refine wpList_load_row rfl 34 _ rfl w.heap.size rfl 34 #[.slice (some ⟨gc,0,none⟩) x.codes.length x.codes.length,v1,v2,.slice (some ⟨gf,0,none⟩) x.frames.length x.frames.length,.int .i64 x.steps,.int .i64 x.looks,.int .i64 x.kind,.string x.name,.string x.hold,.bool x.over,.int .i64 x.fin,.string x.text,v4,v5] (0,0) _ HX2.out.mx.e Tryz.underlying34 rfl (by kernel_rfl) ?_) | (go_at_call 66;refine HGU.out.mono ?_;rintro e w3 ⟨⟨u,rfl,hu1,hu0⟩,hb3⟩;obtain rfl:u=1:=hu1.2 HU1.out;have HB3:=hid hb3;have HX3:=hid (HX2.out.next hb3);obtain ⟨n0,n1,n2,n3,n4⟩:=HN5.out _ hb3;have o1:w3.cell? ⟨bf,1,none⟩=some (.int .i64 (ff:Int)):=(cell_hp HX3.out.fb 1).trans (by rw [← HFF1.out];rfl);clear hu1 hu0 hb3) | (go_at_call 95;refine (main_t _ HM.out).mono ?_;rintro e w4 ⟨rfl,hb4⟩;have HB4:=hid (HB3.out.trans (hb4.mono HB3.out.size));have HX4:=hid (HX3.out.next hb4);clear hb4))
    clear n0 n1 n2 n3 n4 o1
    have s2:w4.cell? ⟨w.heap.size+1,2,none⟩=some (.string (kt T)):=cell_hp HX4.out.sb 2
    have HVS4:=hid (HVS2.out.next HB4.out)
    have HVT4:=hid (HVT2.out.next HB4.out)
    have HKW:=hid (HK.out.next HX4.out.mx.lo)
    rcases haw:awaits x i with _ | ja0
    ·have HAWN:=hid haw
     clear haw
     have HLI:Hid (lies x i A=T):=hid ((lies_none HAWN.out).trans HKT.out.2)
     have HSO:Hid (Stands x i A):=hid (stands_none HAWN.out)
     have HE9:Hid (SlotsOk f.slots K→StackOk f.stack (T)→RngOk x i∧FrameOk x i):=hid fun h1 h2=>⟨HRNG.out,HIFF.out.2 ⟨HPL.out,HA1.out,by rw [HFX.out,← HFX.out,HKT.out.1,HFX.out];exact h1,HSO.out,by rw [HLI.out,HFX.out];exact h2⟩⟩
     have HO9:Hid (RngOk x i∧FrameOk x i→SlotsOk f.slots K∧StackOk f.stack (T)):=hid fun h=>by
      obtain ⟨_,_,a,_,b⟩:=HIFF.out.1 h.2
      rw [HKT.out.1,HFX.out] at a
      rw [HLI.out,HFX.out] at b
      exact ⟨a,b⟩
     go_upto_region 14 with (first | (refine wpList_load_row rfl 34 _ rfl w.heap.size rfl 34 #[.slice (some ⟨gc,0,none⟩) x.codes.length x.codes.length,v1,v2,.slice (some ⟨gf,0,none⟩) x.frames.length x.frames.length,.int .i64 x.steps,.int .i64 x.looks,.int .i64 x.kind,.string x.name,.string x.hold,.bool x.over,.int .i64 x.fin,.string x.text,v4,v5] (0,0) _ HX4.out.mx.e Tryz.underlying34 rfl (by kernel_rfl) ?_) | (go_at_call 96;refine (await_none _ HKW.out HOX.out hi HAWP.out hfl HAWN.out).mono ?_;rintro e w5 ⟨⟨o9,a9,n9,t9,rfl⟩,hb5⟩;have HB5:=hid hb5;clear hb5 s2))
     have HAN:=hid ((Below.refl w5.heap.size w5).alloc (Nat.le_refl _) (.cells #[.int .i64 o9,.int .i64 a9,.int .i64 n9,.string t9] 103))
     have HAB:Hid ((w5.alloc (.cells #[.int .i64 o9,.int .i64 a9,.int .i64 n9,.string t9] 103)).heap[w5.heap.size]?=some (.cells #[.int .i64 o9,.int .i64 a9,.int .i64 n9,.string t9] 103 (0,0))):=hid (heap_alloc_new _ _)
     have HB46:=hid (HB5.out.trans (HAN.out.mono HB5.out.size))
     have HB6:=hid (HB4.out.trans (HB46.out.mono HB4.out.size))
     have HX6:=hid (HX4.out.next HB46.out)
     obtain ⟨W6,hW6⟩:∃ W,w5.alloc (.cells #[.int .i64 o9,.int .i64 a9,.int .i64 n9,.string t9] 103)=W:=⟨_,rfl⟩
     rw [hW6] at HAB HB46 HB6 HX6 ⊢
     obtain ⟨b6,hb6⟩:∃ b,w5.heap.size=b:=⟨_,rfl⟩
     rw [hb6] at HAB ⊢
     clear hW6 hb6 HAN
     have x3:W6.cell? ⟨bf,3,none⟩=some (.slice (some ⟨gs,0,none⟩) f.slots.length f.slots.length):=cell_hp HX6.out.fb 3
     have y1:W6.cell? ⟨w.heap.size+1,1,none⟩=some (.string (kt K)):=cell_hp HX6.out.sb 1
     have HSV:Hid (R.OkVaS f.slots∧f.slots.length≤1048576∧R.OkVaS f.stack∧f.stack.length≤1048576):=hid (by have h1:=HOF.out;have h2:=HLF.out;rw [HFX.out] at h1 h2;exact ⟨h1.2.2.2.1,h2.1.1,h1.2.2.2.2,h2.2.1⟩)
     by_cases hq1:SlotsOk f.slots K
     ·have HQ1:=hid (says_tr (implSlots_any f.slots K W6 HSH.out.2.1 HSV.out.1 HSV.out.2.1 (HVS4.out.next HB46.out)) hq1)
      have HP1:=hid hq1
      clear hq1
      by_cases hq2:StackOk f.stack T
      ·have HQ2:Hid (∀ V,Below W2.heap.size W2 V→Calls Tryz.prog 98 #[.slice (some ⟨gt,0,none⟩) f.stack.length f.stack.length,.string (kt T)] V fun e w'=>e=.returned (.bool true)∧Below V.heap.size V w'):=hid fun V hV=>says_tr (implStack_any f.stack T V (HSH.out.2.2.1) HSV.out.2.2.1 HSV.out.2.2.2 (HVT2.out.next hV)) hq2
       have HP2:=hid hq2
       clear hq2
       go_wp2_with (first | (go_at_call 97;refine HQ1.out.mono ?_;rintro e w8 ⟨rfl,hb8⟩;have HB8:=hid (HB6.out.trans (hb8.mono HB6.out.size));have HX8:=hid (HX6.out.next hb8);have x4:w8.cell? ⟨bf,4,none⟩=some (.slice (some ⟨gt,0,none⟩) f.stack.length f.stack.length):=cell_hp HX8.out.fb 4;clear hb8 x3 y1) | (go_at_call 98;refine (HQ2.out _ HB8.out).mono ?_;rintro e w9 ⟨rfl,hb9⟩;have HX9:=hid (HX8.out.next hb9);clear hb9))
       go_ret
       exact ⟨says_t (HE9.out HP1.out HP2.out),HX9.out.mx.lo⟩
      ·have HQ2:Hid (∀ V,Below W2.heap.size W2 V→Calls Tryz.prog 98 #[.slice (some ⟨gt,0,none⟩) f.stack.length f.stack.length,.string (kt T)] V fun e w'=>e=.returned (.bool false)∧Below V.heap.size V w'):=hid fun V hV=>says_fa (implStack_any f.stack T V (HSH.out.2.2.1) HSV.out.2.2.1 HSV.out.2.2.2 (HVT2.out.next hV)) hq2
       have HP2:=hid hq2
       clear hq2
       go_wp2_with (first | (go_at_call 97;refine HQ1.out.mono ?_;rintro e w8 ⟨rfl,hb8⟩;have HB8:=hid (HB6.out.trans (hb8.mono HB6.out.size));have HX8:=hid (HX6.out.next hb8);have x4:w8.cell? ⟨bf,4,none⟩=some (.slice (some ⟨gt,0,none⟩) f.stack.length f.stack.length):=cell_hp HX8.out.fb 4;clear hb8 x3 y1) | (go_at_call 98;refine (HQ2.out _ HB8.out).mono ?_;rintro e w9 ⟨rfl,hb9⟩;have HX9:=hid (HX8.out.next hb9);clear hb9))
       go_ret
       exact ⟨says_f fun h=>HP2.out (HO9.out h).2,HX9.out.mx.lo⟩
     ·have HQ1:=hid (says_fa (implSlots_any f.slots K W6 HSH.out.2.1 HSV.out.1 HSV.out.2.1 (HVS4.out.next HB46.out)) hq1)
      have HP1:=hid hq1
      clear hq1
      go_wp2_with (go_at_call 97;refine HQ1.out.mono ?_;rintro e w8 ⟨rfl,hb8⟩;have HB8:=hid (HB6.out.trans (hb8.mono HB6.out.size));have HX8:=hid (HX6.out.next hb8);have x4:w8.cell? ⟨bf,4,none⟩=some (.slice (some ⟨gt,0,none⟩) f.stack.length f.stack.length):=cell_hp HX8.out.fb 4;clear hb8 x3 y1)
      go_ret
      exact ⟨says_f fun h=>HP1.out (HO9.out h).1,HX8.out.mx.lo⟩
    ·have HAWS:=hid haw
     clear haw
     obtain ⟨qo,qa,qn,qt⟩:=ja0
     go_upto_region 10 with (first | (refine wpList_load_row rfl 34 _ rfl w.heap.size rfl 34 #[.slice (some ⟨gc,0,none⟩) x.codes.length x.codes.length,v1,v2,.slice (some ⟨gf,0,none⟩) x.frames.length x.frames.length,.int .i64 x.steps,.int .i64 x.looks,.int .i64 x.kind,.string x.name,.string x.hold,.bool x.over,.int .i64 x.fin,.string x.text,v4,v5] (0,0) _ HX4.out.mx.e Tryz.underlying34 rfl (by kernel_rfl) ?_) | (go_at_call 96;refine (await_some _ HKW.out HOX.out hi HAWP.out hfl HAWS.out).mono ?_;rintro e w5 ⟨rfl,hb5⟩;have HB5:=hid hb5;clear hb5 s2))
     have HAN:=hid ((Below.refl w5.heap.size w5).alloc (Nat.le_refl _) (.cells #[.int .i64 qo,.int .i64 qa,.int .i64 qn,.string qt] 103))
     have HAB:Hid ((w5.alloc (.cells #[.int .i64 qo,.int .i64 qa,.int .i64 qn,.string qt] 103)).heap[w5.heap.size]?=some (.cells #[.int .i64 qo,.int .i64 qa,.int .i64 qn,.string qt] 103 (0,0))):=hid (heap_alloc_new _ _)
     have HB46:=hid (HB5.out.trans (HAN.out.mono HB5.out.size))
     have HB6:=hid (HB4.out.trans (HB46.out.mono HB4.out.size))
     have HX6:=hid (HX4.out.next HB46.out)
     obtain ⟨W6,hW6⟩:∃ W,w5.alloc (.cells #[.int .i64 qo,.int .i64 qa,.int .i64 qn,.string qt] 103)=W:=⟨_,rfl⟩
     rw [hW6] at HAB HB46 HB6 HX6 ⊢
     obtain ⟨b6,hb6⟩:∃ b,w5.heap.size=b:=⟨_,rfl⟩
     rw [hb6] at HAB ⊢
     clear hW6 hb6 HAN
     have e3:W6.cell? ⟨w.heap.size+1,3,none⟩=some (.int .i64 jo):=cell_hp HX6.out.sb 3
     have e4:W6.cell? ⟨w.heap.size+1,3+1,none⟩=some (.int .i64 ja):=cell_hp HX6.out.sb 4
     have e5:W6.cell? ⟨w.heap.size+1,3+2,none⟩=some (.int .i64 jn):=cell_hp HX6.out.sb 5
     have e6:W6.cell? ⟨w.heap.size+1,3+3,none⟩=some (.string jt):=cell_hp HX6.out.sb 6
     have a0:W6.cell? ⟨b6,0,none⟩=some (.int .i64 qo):=cell_hp HAB.out 0
     have a1:W6.cell? ⟨b6,1,none⟩=some (.int .i64 qa):=cell_hp HAB.out 1
     have a2:W6.cell? ⟨b6,2,none⟩=some (.int .i64 qn):=cell_hp HAB.out 2
     have a3:W6.cell? ⟨b6,3,none⟩=some (.string qt):=cell_hp HAB.out 3
     have hneq:=neqIBin jo ja jn qo qa qn jt qt
     have HST9:=hid (insAt_iff (A:=A) HAWS.out)
     by_cases he:(⟨jo,ja,jn,jt⟩:In)=⟨qo,qa,qn,qt⟩
     ·have heb:eqIB jo ja jn jt qo qa qn qt=true:=eqIB_iff.2 he
      have HSD:Hid (Stands x i A):=hid (HST9.out.1 (HIN.out.symm.trans he))
      rw [heb] at hneq
      clear he heb
      go_upto_region 12 with fail
      clear e3 e4 e5 e6 a2 a3 hneq
      have HGT:=hid (HSTK.out _ HAWS.out HSD.out)
      have HJ9:=hid (HJA.out _ HAWS.out HSD.out)
      by_cases hg:gives fns ⟨qo,qa,qn,qt⟩
      ·have HG:=hid hg
       have HT1:=hid (HGT.out hg)
       clear hg
       have HLI:Hid (lies x i A=(T.take (T.length - 1))):=hid (by rw [lies_gives HAWS.out (by rw [HFO.out];exact HG.out),HKT.out.2])
       have HSO:Hid (Stands x i A):=hid (HSD.out)
       have HE9:Hid (SlotsOk f.slots K→StackOk f.stack ((T.take (T.length - 1)))→RngOk x i∧FrameOk x i):=hid fun h1 h2=>⟨HRNG.out,HIFF.out.2 ⟨HPL.out,HA1.out,by rw [HFX.out,← HFX.out,HKT.out.1,HFX.out];exact h1,HSO.out,by rw [HLI.out,HFX.out];exact h2⟩⟩
       have HO9:Hid (RngOk x i∧FrameOk x i→SlotsOk f.slots K∧StackOk f.stack ((T.take (T.length - 1)))):=hid fun h=>by
        obtain ⟨_,_,a,_,b⟩:=HIFF.out.1 h.2
        rw [HKT.out.1,HFX.out] at a
        rw [HLI.out,HFX.out] at b
        exact ⟨a,b⟩
       by_cases h8:qo=8
       ·have h8b:(qo == 8)=true:=by simpa using h8
        clear h8
        have HKS:Hid ((kt T).size=T.length):=hid (C.kt_size T)
        have HKX:Hid ((kt T).extract 0 (T.length - 1)=kt (T.take (T.length - 1))):=hid (C.kt_take T _)
        have hks1:((kt T).size:Int) - 1=((T.length - 1:Nat):Int):=by have:=HKS.out;have:=HT1.out;omega
        have hksl:(T.length - 1:Nat)≤(kt T).size:=by have:=HKS.out;omega
        obtain ⟨tk,htk⟩:∃ b,kt T=b:=⟨_,rfl⟩
        have HTK:=hid htk
        rw [htk] at hks1 hksl HKX ⊢
        obtain ⟨tm,htm⟩:∃ n,T.length - 1=n:=⟨_,rfl⟩
        rw [htm] at hks1 hksl
        have HTM:=hid htm
        have hwt:wrap64 (tm:Int)=(tm:Int):=by have:=HSH.out.2.2.2;unfold wrap64;omega
        clear htk htm
        go_upto_region 14 with fail
        clear a0 a1
        rw [← HTM.out,HKX.out]
        have x3:W6.cell? ⟨bf,3,none⟩=some (.slice (some ⟨gs,0,none⟩) f.slots.length f.slots.length):=cell_hp HX6.out.fb 3
        have y1:W6.cell? ⟨w.heap.size+1,1,none⟩=some (.string (kt K)):=cell_hp HX6.out.sb 1
        have HSV:Hid (R.OkVaS f.slots∧f.slots.length≤1048576∧R.OkVaS f.stack∧f.stack.length≤1048576):=hid (by have h1:=HOF.out;have h2:=HLF.out;rw [HFX.out] at h1 h2;exact ⟨h1.2.2.2.1,h2.1.1,h1.2.2.2.2,h2.2.1⟩)
        by_cases hq1:SlotsOk f.slots K
        ·have HQ1:=hid (says_tr (implSlots_any f.slots K W6 HSH.out.2.1 HSV.out.1 HSV.out.2.1 (HVS4.out.next HB46.out)) hq1)
         have HP1:=hid hq1
         clear hq1
         by_cases hq2:StackOk f.stack (T.take (T.length - 1))
         ·have HQ2:Hid (∀ V,Below W2.heap.size W2 V→Calls Tryz.prog 98 #[.slice (some ⟨gt,0,none⟩) f.stack.length f.stack.length,.string (kt (T.take (T.length - 1)))] V fun e w'=>e=.returned (.bool true)∧Below V.heap.size V w'):=hid fun V hV=>says_tr (implStack_any f.stack (T.take (T.length - 1)) V (ok10_take HSH.out.2.2.1 _) HSV.out.2.2.1 HSV.out.2.2.2 (HVT2.out.next hV)) hq2
          have HP2:=hid hq2
          clear hq2
          go_wp2_with (first | (go_at_call 97;refine HQ1.out.mono ?_;rintro e w8 ⟨rfl,hb8⟩;have HB8:=hid (HB6.out.trans (hb8.mono HB6.out.size));have HX8:=hid (HX6.out.next hb8);have x4:w8.cell? ⟨bf,4,none⟩=some (.slice (some ⟨gt,0,none⟩) f.stack.length f.stack.length):=cell_hp HX8.out.fb 4;clear hb8 x3 y1) | (go_at_call 98;refine (HQ2.out _ HB8.out).mono ?_;rintro e w9 ⟨rfl,hb9⟩;have HX9:=hid (HX8.out.next hb9);clear hb9))
          go_ret
          exact ⟨says_t (HE9.out HP1.out HP2.out),HX9.out.mx.lo⟩
         ·have HQ2:Hid (∀ V,Below W2.heap.size W2 V→Calls Tryz.prog 98 #[.slice (some ⟨gt,0,none⟩) f.stack.length f.stack.length,.string (kt (T.take (T.length - 1)))] V fun e w'=>e=.returned (.bool false)∧Below V.heap.size V w'):=hid fun V hV=>says_fa (implStack_any f.stack (T.take (T.length - 1)) V (ok10_take HSH.out.2.2.1 _) HSV.out.2.2.1 HSV.out.2.2.2 (HVT2.out.next hV)) hq2
          have HP2:=hid hq2
          clear hq2
          go_wp2_with (first | (go_at_call 97;refine HQ1.out.mono ?_;rintro e w8 ⟨rfl,hb8⟩;have HB8:=hid (HB6.out.trans (hb8.mono HB6.out.size));have HX8:=hid (HX6.out.next hb8);have x4:w8.cell? ⟨bf,4,none⟩=some (.slice (some ⟨gt,0,none⟩) f.stack.length f.stack.length):=cell_hp HX8.out.fb 4;clear hb8 x3 y1) | (go_at_call 98;refine (HQ2.out _ HB8.out).mono ?_;rintro e w9 ⟨rfl,hb9⟩;have HX9:=hid (HX8.out.next hb9);clear hb9))
          go_ret
          exact ⟨says_f fun h=>HP2.out (HO9.out h).2,HX9.out.mx.lo⟩
        ·have HQ1:=hid (says_fa (implSlots_any f.slots K W6 HSH.out.2.1 HSV.out.1 HSV.out.2.1 (HVS4.out.next HB46.out)) hq1)
         have HP1:=hid hq1
         clear hq1
         go_wp2_with (go_at_call 97;refine HQ1.out.mono ?_;rintro e w8 ⟨rfl,hb8⟩;have HB8:=hid (HB6.out.trans (hb8.mono HB6.out.size));have HX8:=hid (HX6.out.next hb8);have x4:w8.cell? ⟨bf,4,none⟩=some (.slice (some ⟨gt,0,none⟩) f.stack.length f.stack.length):=cell_hp HX8.out.fb 4;clear hb8 x3 y1)
         go_ret
         exact ⟨says_f fun h=>HP1.out (HO9.out h).1,HX8.out.mx.lo⟩
       ·have h8b:(qo == 8)=false:=by simpa using h8
        have H89:Hid (qo=9):=hid ((awaits_op HAWS.out).1.resolve_left h8)
        clear h8
        obtain ⟨na,hna⟩:∃ n:Nat,qa=n:=⟨qa.toNat,by have:=HJ9.out H89.out;simp only at this;omega⟩
        have hnal:na < fns.length:=by have:=HJ9.out H89.out;simp only at this;omega
        have hnai:(na:Int) < (fns.length:Int):=by omega
        have HRQ:Hid (¬ (fns.getD na fn0).result=0):=hid (by have h9:=HG.out.resolve_left (by show ¬ qo=8;rw [H89.out];decide);simp only at h9;rw [hna] at h9;exact h9)
        obtain ⟨_,r2⟩:=fnr_at (HFV.out.next HB6.out) hnal
        rw [hna] at a1
        obtain ⟨rz,hrz⟩:∃ z,(fns.getD na fn0).result=z:=⟨_,rfl⟩
        rw [hrz] at r2 HRQ
        have hrb:(rz != 0)=true:=by have:=HRQ.out;simpa using this
        clear hrz hna
        have HKS:Hid ((kt T).size=T.length):=hid (C.kt_size T)
        have HKX:Hid ((kt T).extract 0 (T.length - 1)=kt (T.take (T.length - 1))):=hid (C.kt_take T _)
        have hks1:((kt T).size:Int) - 1=((T.length - 1:Nat):Int):=by have:=HKS.out;have:=HT1.out;omega
        have hksl:(T.length - 1:Nat)≤(kt T).size:=by have:=HKS.out;omega
        obtain ⟨tk,htk⟩:∃ b,kt T=b:=⟨_,rfl⟩
        have HTK:=hid htk
        rw [htk] at hks1 hksl HKX ⊢
        obtain ⟨tm,htm⟩:∃ n,T.length - 1=n:=⟨_,rfl⟩
        rw [htm] at hks1 hksl
        have HTM:=hid htm
        have hwt:wrap64 (tm:Int)=(tm:Int):=by have:=HSH.out.2.2.2;unfold wrap64;omega
        clear htk htm
        go_upto_region 14 with fail
        clear a0 a1
        rw [← HTM.out,HKX.out]
        have x3:W6.cell? ⟨bf,3,none⟩=some (.slice (some ⟨gs,0,none⟩) f.slots.length f.slots.length):=cell_hp HX6.out.fb 3
        have y1:W6.cell? ⟨w.heap.size+1,1,none⟩=some (.string (kt K)):=cell_hp HX6.out.sb 1
        have HSV:Hid (R.OkVaS f.slots∧f.slots.length≤1048576∧R.OkVaS f.stack∧f.stack.length≤1048576):=hid (by have h1:=HOF.out;have h2:=HLF.out;rw [HFX.out] at h1 h2;exact ⟨h1.2.2.2.1,h2.1.1,h1.2.2.2.2,h2.2.1⟩)
        by_cases hq1:SlotsOk f.slots K
        ·have HQ1:=hid (says_tr (implSlots_any f.slots K W6 HSH.out.2.1 HSV.out.1 HSV.out.2.1 (HVS4.out.next HB46.out)) hq1)
         have HP1:=hid hq1
         clear hq1
         by_cases hq2:StackOk f.stack (T.take (T.length - 1))
         ·have HQ2:Hid (∀ V,Below W2.heap.size W2 V→Calls Tryz.prog 98 #[.slice (some ⟨gt,0,none⟩) f.stack.length f.stack.length,.string (kt (T.take (T.length - 1)))] V fun e w'=>e=.returned (.bool true)∧Below V.heap.size V w'):=hid fun V hV=>says_tr (implStack_any f.stack (T.take (T.length - 1)) V (ok10_take HSH.out.2.2.1 _) HSV.out.2.2.1 HSV.out.2.2.2 (HVT2.out.next hV)) hq2
          have HP2:=hid hq2
          clear hq2
          go_wp2_with (first | (go_at_call 97;refine HQ1.out.mono ?_;rintro e w8 ⟨rfl,hb8⟩;have HB8:=hid (HB6.out.trans (hb8.mono HB6.out.size));have HX8:=hid (HX6.out.next hb8);have x4:w8.cell? ⟨bf,4,none⟩=some (.slice (some ⟨gt,0,none⟩) f.stack.length f.stack.length):=cell_hp HX8.out.fb 4;clear hb8 x3 y1) | (go_at_call 98;refine (HQ2.out _ HB8.out).mono ?_;rintro e w9 ⟨rfl,hb9⟩;have HX9:=hid (HX8.out.next hb9);clear hb9))
          go_ret
          exact ⟨says_t (HE9.out HP1.out HP2.out),HX9.out.mx.lo⟩
         ·have HQ2:Hid (∀ V,Below W2.heap.size W2 V→Calls Tryz.prog 98 #[.slice (some ⟨gt,0,none⟩) f.stack.length f.stack.length,.string (kt (T.take (T.length - 1)))] V fun e w'=>e=.returned (.bool false)∧Below V.heap.size V w'):=hid fun V hV=>says_fa (implStack_any f.stack (T.take (T.length - 1)) V (ok10_take HSH.out.2.2.1 _) HSV.out.2.2.1 HSV.out.2.2.2 (HVT2.out.next hV)) hq2
          have HP2:=hid hq2
          clear hq2
          go_wp2_with (first | (go_at_call 97;refine HQ1.out.mono ?_;rintro e w8 ⟨rfl,hb8⟩;have HB8:=hid (HB6.out.trans (hb8.mono HB6.out.size));have HX8:=hid (HX6.out.next hb8);have x4:w8.cell? ⟨bf,4,none⟩=some (.slice (some ⟨gt,0,none⟩) f.stack.length f.stack.length):=cell_hp HX8.out.fb 4;clear hb8 x3 y1) | (go_at_call 98;refine (HQ2.out _ HB8.out).mono ?_;rintro e w9 ⟨rfl,hb9⟩;have HX9:=hid (HX8.out.next hb9);clear hb9))
          go_ret
          exact ⟨says_f fun h=>HP2.out (HO9.out h).2,HX9.out.mx.lo⟩
        ·have HQ1:=hid (says_fa (implSlots_any f.slots K W6 HSH.out.2.1 HSV.out.1 HSV.out.2.1 (HVS4.out.next HB46.out)) hq1)
         have HP1:=hid hq1
         clear hq1
         go_wp2_with (go_at_call 97;refine HQ1.out.mono ?_;rintro e w8 ⟨rfl,hb8⟩;have HB8:=hid (HB6.out.trans (hb8.mono HB6.out.size));have HX8:=hid (HX6.out.next hb8);have x4:w8.cell? ⟨bf,4,none⟩=some (.slice (some ⟨gt,0,none⟩) f.stack.length f.stack.length):=cell_hp HX8.out.fb 4;clear hb8 x3 y1)
         go_ret
         exact ⟨says_f fun h=>HP1.out (HO9.out h).1,HX8.out.mx.lo⟩
      ·have HG:=hid hg
       clear hg
       have HLI:Hid (lies x i A=T):=hid (by rw [lies_no HAWS.out (by rw [HFO.out];exact HG.out),HKT.out.2])
       have HSO:Hid (Stands x i A):=hid (HSD.out)
       have HE9:Hid (SlotsOk f.slots K→StackOk f.stack (T)→RngOk x i∧FrameOk x i):=hid fun h1 h2=>⟨HRNG.out,HIFF.out.2 ⟨HPL.out,HA1.out,by rw [HFX.out,← HFX.out,HKT.out.1,HFX.out];exact h1,HSO.out,by rw [HLI.out,HFX.out];exact h2⟩⟩
       have HO9:Hid (RngOk x i∧FrameOk x i→SlotsOk f.slots K∧StackOk f.stack (T)):=hid fun h=>by
        obtain ⟨_,_,a,_,b⟩:=HIFF.out.1 h.2
        rw [HKT.out.1,HFX.out] at a
        rw [HLI.out,HFX.out] at b
        exact ⟨a,b⟩
       have h8b:(qo == 8)=false:=by have:=fun h=>HG.out (.inl h);simpa using this
       have H89:Hid (qo=9):=hid ((awaits_op HAWS.out).1.resolve_left fun h=>HG.out (.inl h))
       obtain ⟨na,hna⟩:∃ n:Nat,qa=n:=⟨qa.toNat,by have:=HJ9.out H89.out;simp only at this;omega⟩
       have hnal:na < fns.length:=by have:=HJ9.out H89.out;simp only at this;omega
       have hnai:(na:Int) < (fns.length:Int):=by omega
       have HRQ:Hid ((fns.getD na fn0).result=0):=hid (by have h9:=fun h=>HG.out (.inr h);simp only at h9;rw [hna] at h9;exact Decidable.not_not.1 h9)
       obtain ⟨_,r2⟩:=fnr_at (HFV.out.next HB6.out) hnal
       rw [hna] at a1
       obtain ⟨rz,hrz⟩:∃ z,(fns.getD na fn0).result=z:=⟨_,rfl⟩
       rw [hrz] at r2 HRQ
       have hrb:(rz != 0)=false:=by have:=HRQ.out;simp [this]
       clear hrz hna
       go_upto_region 14 with fail
       clear a0 a1
       have x3:W6.cell? ⟨bf,3,none⟩=some (.slice (some ⟨gs,0,none⟩) f.slots.length f.slots.length):=cell_hp HX6.out.fb 3
       have y1:W6.cell? ⟨w.heap.size+1,1,none⟩=some (.string (kt K)):=cell_hp HX6.out.sb 1
       have HSV:Hid (R.OkVaS f.slots∧f.slots.length≤1048576∧R.OkVaS f.stack∧f.stack.length≤1048576):=hid (by have h1:=HOF.out;have h2:=HLF.out;rw [HFX.out] at h1 h2;exact ⟨h1.2.2.2.1,h2.1.1,h1.2.2.2.2,h2.2.1⟩)
       by_cases hq1:SlotsOk f.slots K
       ·have HQ1:=hid (says_tr (implSlots_any f.slots K W6 HSH.out.2.1 HSV.out.1 HSV.out.2.1 (HVS4.out.next HB46.out)) hq1)
        have HP1:=hid hq1
        clear hq1
        by_cases hq2:StackOk f.stack T
        ·have HQ2:Hid (∀ V,Below W2.heap.size W2 V→Calls Tryz.prog 98 #[.slice (some ⟨gt,0,none⟩) f.stack.length f.stack.length,.string (kt T)] V fun e w'=>e=.returned (.bool true)∧Below V.heap.size V w'):=hid fun V hV=>says_tr (implStack_any f.stack T V (HSH.out.2.2.1) HSV.out.2.2.1 HSV.out.2.2.2 (HVT2.out.next hV)) hq2
         have HP2:=hid hq2
         clear hq2
         go_wp2_with (first | (go_at_call 97;refine HQ1.out.mono ?_;rintro e w8 ⟨rfl,hb8⟩;have HB8:=hid (HB6.out.trans (hb8.mono HB6.out.size));have HX8:=hid (HX6.out.next hb8);have x4:w8.cell? ⟨bf,4,none⟩=some (.slice (some ⟨gt,0,none⟩) f.stack.length f.stack.length):=cell_hp HX8.out.fb 4;clear hb8 x3 y1) | (go_at_call 98;refine (HQ2.out _ HB8.out).mono ?_;rintro e w9 ⟨rfl,hb9⟩;have HX9:=hid (HX8.out.next hb9);clear hb9))
         go_ret
         exact ⟨says_t (HE9.out HP1.out HP2.out),HX9.out.mx.lo⟩
        ·have HQ2:Hid (∀ V,Below W2.heap.size W2 V→Calls Tryz.prog 98 #[.slice (some ⟨gt,0,none⟩) f.stack.length f.stack.length,.string (kt T)] V fun e w'=>e=.returned (.bool false)∧Below V.heap.size V w'):=hid fun V hV=>says_fa (implStack_any f.stack T V (HSH.out.2.2.1) HSV.out.2.2.1 HSV.out.2.2.2 (HVT2.out.next hV)) hq2
         have HP2:=hid hq2
         clear hq2
         go_wp2_with (first | (go_at_call 97;refine HQ1.out.mono ?_;rintro e w8 ⟨rfl,hb8⟩;have HB8:=hid (HB6.out.trans (hb8.mono HB6.out.size));have HX8:=hid (HX6.out.next hb8);have x4:w8.cell? ⟨bf,4,none⟩=some (.slice (some ⟨gt,0,none⟩) f.stack.length f.stack.length):=cell_hp HX8.out.fb 4;clear hb8 x3 y1) | (go_at_call 98;refine (HQ2.out _ HB8.out).mono ?_;rintro e w9 ⟨rfl,hb9⟩;have HX9:=hid (HX8.out.next hb9);clear hb9))
         go_ret
         exact ⟨says_f fun h=>HP2.out (HO9.out h).2,HX9.out.mx.lo⟩
       ·have HQ1:=hid (says_fa (implSlots_any f.slots K W6 HSH.out.2.1 HSV.out.1 HSV.out.2.1 (HVS4.out.next HB46.out)) hq1)
        have HP1:=hid hq1
        clear hq1
        go_wp2_with (go_at_call 97;refine HQ1.out.mono ?_;rintro e w8 ⟨rfl,hb8⟩;have HB8:=hid (HB6.out.trans (hb8.mono HB6.out.size));have HX8:=hid (HX6.out.next hb8);have x4:w8.cell? ⟨bf,4,none⟩=some (.slice (some ⟨gt,0,none⟩) f.stack.length f.stack.length):=cell_hp HX8.out.fb 4;clear hb8 x3 y1)
        go_ret
        exact ⟨says_f fun h=>HP1.out (HO9.out h).1,HX8.out.mx.lo⟩
     ·have heb:eqIB jo ja jn jt qo qa qn qt=false:=Bool.eq_false_iff.2 fun h=>he (eqIB_iff.1 h)
      have HNS:Hid (¬ (RngOk x i∧FrameOk x i)):=hid fun h=>he (HIN.out.trans (HST9.out.2 (HIFF.out.1 h.2).2.2.2.1))
      rw [heb] at hneq
      clear he heb
      go_wp2_with fail
      go_ret
      exact ⟨says_f HNS.out,HX6.out.mx.lo⟩
   ·have HM:=hid hm
    have HNR:Hid (¬ (RngOk x i∧FrameOk x i)):=hid fun h=>HM.out (by have:=h.1.2.2 HWN.out;rwa [HFN.out] at this)
    clear hm
    go_wp2_with (first | (refine wpList_load_row rfl 34 _ rfl w.heap.size rfl 34 #[.slice (some ⟨gc,0,none⟩) x.codes.length x.codes.length,v1,v2,.slice (some ⟨gf,0,none⟩) x.frames.length x.frames.length,.int .i64 x.steps,.int .i64 x.looks,.int .i64 x.kind,.string x.name,.string x.hold,.bool x.over,.int .i64 x.fin,.string x.text,v4,v5] (0,0) _ HX2.out.mx.e Tryz.underlying34 rfl (by kernel_rfl) ?_) | (go_at_call 66;refine HGU.out.mono ?_;rintro e w3 ⟨⟨u,rfl,hu1,hu0⟩,hb3⟩;obtain rfl:u=1:=hu1.2 HU1.out;have HB3:=hid hb3;have HX3:=hid (HX2.out.next hb3);obtain ⟨n0,n1,n2,n3,n4⟩:=HN5.out _ hb3;have o1:w3.cell? ⟨bf,1,none⟩=some (.int .i64 (ff:Int)):=(cell_hp HX3.out.fb 1).trans (by rw [← HFF1.out];rfl);clear hu1 hu0 hb3) | (go_at_call 95;refine (main_f _ HM.out).mono ?_;rintro e w4 ⟨rfl,hb4⟩;have HX4:=hid (HX3.out.next hb4);clear hb4))
    go_ret
    exact ⟨says_f HNR.out,HX4.out.mx.lo⟩
  ·have HU1:=hid hw9
   have HRNG:Hid (RngOk x i):=hid ⟨(HUP.out i hi).2,HRF.out,fun h=>absurd ((HUP.out i hi).1.resolve_left h) hw9⟩
   clear hw9
   go_upto_region 7 with (first | (refine wpList_load_row rfl 34 _ rfl w.heap.size rfl 34 #[.slice (some ⟨gc,0,none⟩) x.codes.length x.codes.length,v1,v2,.slice (some ⟨gf,0,none⟩) x.frames.length x.frames.length,.int .i64 x.steps,.int .i64 x.looks,.int .i64 x.kind,.string x.name,.string x.hold,.bool x.over,.int .i64 x.fin,.string x.text,v4,v5] (0,0) _ HX2.out.mx.e Tryz.underlying34 rfl (by kernel_rfl) ?_) | (go_at_call 66;refine HGU.out.mono ?_;rintro e w4 ⟨⟨u,rfl,hu1,hu0⟩,hb4⟩;have hu9:(u == 1)=false:=by { have:=HU1.out;simp;omega };have HB4:=hid hb4;have HX4:=hid (HX2.out.next hb4);clear hu1 hu0 hb4))
   clear hu9
   have s2:w4.cell? ⟨w.heap.size+1,2,none⟩=some (.string (kt T)):=cell_hp HX4.out.sb 2
   have HVS4:=hid (HVS2.out.next HB4.out)
   have HVT4:=hid (HVT2.out.next HB4.out)
   have HKW:=hid (HK.out.next HX4.out.mx.lo)
   rcases haw:awaits x i with _ | ja0
   ·have HAWN:=hid haw
    clear haw
    have HLI:Hid (lies x i A=T):=hid ((lies_none HAWN.out).trans HKT.out.2)
    have HSO:Hid (Stands x i A):=hid (stands_none HAWN.out)
    have HE9:Hid (SlotsOk f.slots K→StackOk f.stack (T)→RngOk x i∧FrameOk x i):=hid fun h1 h2=>⟨HRNG.out,HIFF.out.2 ⟨HPL.out,HA1.out,by rw [HFX.out,← HFX.out,HKT.out.1,HFX.out];exact h1,HSO.out,by rw [HLI.out,HFX.out];exact h2⟩⟩
    have HO9:Hid (RngOk x i∧FrameOk x i→SlotsOk f.slots K∧StackOk f.stack (T)):=hid fun h=>by
     obtain ⟨_,_,a,_,b⟩:=HIFF.out.1 h.2
     rw [HKT.out.1,HFX.out] at a
     rw [HLI.out,HFX.out] at b
     exact ⟨a,b⟩
    go_upto_region 14 with (first | (refine wpList_load_row rfl 34 _ rfl w.heap.size rfl 34 #[.slice (some ⟨gc,0,none⟩) x.codes.length x.codes.length,v1,v2,.slice (some ⟨gf,0,none⟩) x.frames.length x.frames.length,.int .i64 x.steps,.int .i64 x.looks,.int .i64 x.kind,.string x.name,.string x.hold,.bool x.over,.int .i64 x.fin,.string x.text,v4,v5] (0,0) _ HX4.out.mx.e Tryz.underlying34 rfl (by kernel_rfl) ?_) | (go_at_call 96;refine (await_none _ HKW.out HOX.out hi HAWP.out hfl HAWN.out).mono ?_;rintro e w5 ⟨⟨o9,a9,n9,t9,rfl⟩,hb5⟩;have HB5:=hid hb5;clear hb5 s2))
    have HAN:=hid ((Below.refl w5.heap.size w5).alloc (Nat.le_refl _) (.cells #[.int .i64 o9,.int .i64 a9,.int .i64 n9,.string t9] 103))
    have HAB:Hid ((w5.alloc (.cells #[.int .i64 o9,.int .i64 a9,.int .i64 n9,.string t9] 103)).heap[w5.heap.size]?=some (.cells #[.int .i64 o9,.int .i64 a9,.int .i64 n9,.string t9] 103 (0,0))):=hid (heap_alloc_new _ _)
    have HB46:=hid (HB5.out.trans (HAN.out.mono HB5.out.size))
    have HB6:=hid (HB4.out.trans (HB46.out.mono HB4.out.size))
    have HX6:=hid (HX4.out.next HB46.out)
    obtain ⟨W6,hW6⟩:∃ W,w5.alloc (.cells #[.int .i64 o9,.int .i64 a9,.int .i64 n9,.string t9] 103)=W:=⟨_,rfl⟩
    rw [hW6] at HAB HB46 HB6 HX6 ⊢
    obtain ⟨b6,hb6⟩:∃ b,w5.heap.size=b:=⟨_,rfl⟩
    rw [hb6] at HAB ⊢
    clear hW6 hb6 HAN
    have x3:W6.cell? ⟨bf,3,none⟩=some (.slice (some ⟨gs,0,none⟩) f.slots.length f.slots.length):=cell_hp HX6.out.fb 3
    have y1:W6.cell? ⟨w.heap.size+1,1,none⟩=some (.string (kt K)):=cell_hp HX6.out.sb 1
    have HSV:Hid (R.OkVaS f.slots∧f.slots.length≤1048576∧R.OkVaS f.stack∧f.stack.length≤1048576):=hid (by have h1:=HOF.out;have h2:=HLF.out;rw [HFX.out] at h1 h2;exact ⟨h1.2.2.2.1,h2.1.1,h1.2.2.2.2,h2.2.1⟩)
    by_cases hq1:SlotsOk f.slots K
    ·have HQ1:=hid (says_tr (implSlots_any f.slots K W6 HSH.out.2.1 HSV.out.1 HSV.out.2.1 (HVS4.out.next HB46.out)) hq1)
     have HP1:=hid hq1
     clear hq1
     by_cases hq2:StackOk f.stack T
     ·have HQ2:Hid (∀ V,Below W2.heap.size W2 V→Calls Tryz.prog 98 #[.slice (some ⟨gt,0,none⟩) f.stack.length f.stack.length,.string (kt T)] V fun e w'=>e=.returned (.bool true)∧Below V.heap.size V w'):=hid fun V hV=>says_tr (implStack_any f.stack T V (HSH.out.2.2.1) HSV.out.2.2.1 HSV.out.2.2.2 (HVT2.out.next hV)) hq2
      have HP2:=hid hq2
      clear hq2
      go_wp2_with (first | (go_at_call 97;refine HQ1.out.mono ?_;rintro e w8 ⟨rfl,hb8⟩;have HB8:=hid (HB6.out.trans (hb8.mono HB6.out.size));have HX8:=hid (HX6.out.next hb8);have x4:w8.cell? ⟨bf,4,none⟩=some (.slice (some ⟨gt,0,none⟩) f.stack.length f.stack.length):=cell_hp HX8.out.fb 4;clear hb8 x3 y1) | (go_at_call 98;refine (HQ2.out _ HB8.out).mono ?_;rintro e w9 ⟨rfl,hb9⟩;have HX9:=hid (HX8.out.next hb9);clear hb9))
      go_ret
      exact ⟨says_t (HE9.out HP1.out HP2.out),HX9.out.mx.lo⟩
     ·have HQ2:Hid (∀ V,Below W2.heap.size W2 V→Calls Tryz.prog 98 #[.slice (some ⟨gt,0,none⟩) f.stack.length f.stack.length,.string (kt T)] V fun e w'=>e=.returned (.bool false)∧Below V.heap.size V w'):=hid fun V hV=>says_fa (implStack_any f.stack T V (HSH.out.2.2.1) HSV.out.2.2.1 HSV.out.2.2.2 (HVT2.out.next hV)) hq2
      have HP2:=hid hq2
      clear hq2
      go_wp2_with (first | (go_at_call 97;refine HQ1.out.mono ?_;rintro e w8 ⟨rfl,hb8⟩;have HB8:=hid (HB6.out.trans (hb8.mono HB6.out.size));have HX8:=hid (HX6.out.next hb8);have x4:w8.cell? ⟨bf,4,none⟩=some (.slice (some ⟨gt,0,none⟩) f.stack.length f.stack.length):=cell_hp HX8.out.fb 4;clear hb8 x3 y1) | (go_at_call 98;refine (HQ2.out _ HB8.out).mono ?_;rintro e w9 ⟨rfl,hb9⟩;have HX9:=hid (HX8.out.next hb9);clear hb9))
      go_ret
      exact ⟨says_f fun h=>HP2.out (HO9.out h).2,HX9.out.mx.lo⟩
    ·have HQ1:=hid (says_fa (implSlots_any f.slots K W6 HSH.out.2.1 HSV.out.1 HSV.out.2.1 (HVS4.out.next HB46.out)) hq1)
     have HP1:=hid hq1
     clear hq1
     go_wp2_with (go_at_call 97;refine HQ1.out.mono ?_;rintro e w8 ⟨rfl,hb8⟩;have HB8:=hid (HB6.out.trans (hb8.mono HB6.out.size));have HX8:=hid (HX6.out.next hb8);have x4:w8.cell? ⟨bf,4,none⟩=some (.slice (some ⟨gt,0,none⟩) f.stack.length f.stack.length):=cell_hp HX8.out.fb 4;clear hb8 x3 y1)
     go_ret
     exact ⟨says_f fun h=>HP1.out (HO9.out h).1,HX8.out.mx.lo⟩
   ·have HAWS:=hid haw
    clear haw
    obtain ⟨qo,qa,qn,qt⟩:=ja0
    go_upto_region 10 with (first | (refine wpList_load_row rfl 34 _ rfl w.heap.size rfl 34 #[.slice (some ⟨gc,0,none⟩) x.codes.length x.codes.length,v1,v2,.slice (some ⟨gf,0,none⟩) x.frames.length x.frames.length,.int .i64 x.steps,.int .i64 x.looks,.int .i64 x.kind,.string x.name,.string x.hold,.bool x.over,.int .i64 x.fin,.string x.text,v4,v5] (0,0) _ HX4.out.mx.e Tryz.underlying34 rfl (by kernel_rfl) ?_) | (go_at_call 96;refine (await_some _ HKW.out HOX.out hi HAWP.out hfl HAWS.out).mono ?_;rintro e w5 ⟨rfl,hb5⟩;have HB5:=hid hb5;clear hb5 s2))
    have HAN:=hid ((Below.refl w5.heap.size w5).alloc (Nat.le_refl _) (.cells #[.int .i64 qo,.int .i64 qa,.int .i64 qn,.string qt] 103))
    have HAB:Hid ((w5.alloc (.cells #[.int .i64 qo,.int .i64 qa,.int .i64 qn,.string qt] 103)).heap[w5.heap.size]?=some (.cells #[.int .i64 qo,.int .i64 qa,.int .i64 qn,.string qt] 103 (0,0))):=hid (heap_alloc_new _ _)
    have HB46:=hid (HB5.out.trans (HAN.out.mono HB5.out.size))
    have HB6:=hid (HB4.out.trans (HB46.out.mono HB4.out.size))
    have HX6:=hid (HX4.out.next HB46.out)
    obtain ⟨W6,hW6⟩:∃ W,w5.alloc (.cells #[.int .i64 qo,.int .i64 qa,.int .i64 qn,.string qt] 103)=W:=⟨_,rfl⟩
    rw [hW6] at HAB HB46 HB6 HX6 ⊢
    obtain ⟨b6,hb6⟩:∃ b,w5.heap.size=b:=⟨_,rfl⟩
    rw [hb6] at HAB ⊢
    clear hW6 hb6 HAN
    have e3:W6.cell? ⟨w.heap.size+1,3,none⟩=some (.int .i64 jo):=cell_hp HX6.out.sb 3
    have e4:W6.cell? ⟨w.heap.size+1,3+1,none⟩=some (.int .i64 ja):=cell_hp HX6.out.sb 4
    have e5:W6.cell? ⟨w.heap.size+1,3+2,none⟩=some (.int .i64 jn):=cell_hp HX6.out.sb 5
    have e6:W6.cell? ⟨w.heap.size+1,3+3,none⟩=some (.string jt):=cell_hp HX6.out.sb 6
    have a0:W6.cell? ⟨b6,0,none⟩=some (.int .i64 qo):=cell_hp HAB.out 0
    have a1:W6.cell? ⟨b6,1,none⟩=some (.int .i64 qa):=cell_hp HAB.out 1
    have a2:W6.cell? ⟨b6,2,none⟩=some (.int .i64 qn):=cell_hp HAB.out 2
    have a3:W6.cell? ⟨b6,3,none⟩=some (.string qt):=cell_hp HAB.out 3
    have hneq:=neqIBin jo ja jn qo qa qn jt qt
    have HST9:=hid (insAt_iff (A:=A) HAWS.out)
    by_cases he:(⟨jo,ja,jn,jt⟩:In)=⟨qo,qa,qn,qt⟩
    ·have heb:eqIB jo ja jn jt qo qa qn qt=true:=eqIB_iff.2 he
     have HSD:Hid (Stands x i A):=hid (HST9.out.1 (HIN.out.symm.trans he))
     rw [heb] at hneq
     clear he heb
     go_upto_region 12 with fail
     clear e3 e4 e5 e6 a2 a3 hneq
     have HGT:=hid (HSTK.out _ HAWS.out HSD.out)
     have HJ9:=hid (HJA.out _ HAWS.out HSD.out)
     by_cases hg:gives fns ⟨qo,qa,qn,qt⟩
     ·have HG:=hid hg
      have HT1:=hid (HGT.out hg)
      clear hg
      have HLI:Hid (lies x i A=(T.take (T.length - 1))):=hid (by rw [lies_gives HAWS.out (by rw [HFO.out];exact HG.out),HKT.out.2])
      have HSO:Hid (Stands x i A):=hid (HSD.out)
      have HE9:Hid (SlotsOk f.slots K→StackOk f.stack ((T.take (T.length - 1)))→RngOk x i∧FrameOk x i):=hid fun h1 h2=>⟨HRNG.out,HIFF.out.2 ⟨HPL.out,HA1.out,by rw [HFX.out,← HFX.out,HKT.out.1,HFX.out];exact h1,HSO.out,by rw [HLI.out,HFX.out];exact h2⟩⟩
      have HO9:Hid (RngOk x i∧FrameOk x i→SlotsOk f.slots K∧StackOk f.stack ((T.take (T.length - 1)))):=hid fun h=>by
       obtain ⟨_,_,a,_,b⟩:=HIFF.out.1 h.2
       rw [HKT.out.1,HFX.out] at a
       rw [HLI.out,HFX.out] at b
       exact ⟨a,b⟩
      by_cases h8:qo=8
      ·have h8b:(qo == 8)=true:=by simpa using h8
       clear h8
       have HKS:Hid ((kt T).size=T.length):=hid (C.kt_size T)
       have HKX:Hid ((kt T).extract 0 (T.length - 1)=kt (T.take (T.length - 1))):=hid (C.kt_take T _)
       have hks1:((kt T).size:Int) - 1=((T.length - 1:Nat):Int):=by have:=HKS.out;have:=HT1.out;omega
       have hksl:(T.length - 1:Nat)≤(kt T).size:=by have:=HKS.out;omega
       obtain ⟨tk,htk⟩:∃ b,kt T=b:=⟨_,rfl⟩
       have HTK:=hid htk
       rw [htk] at hks1 hksl HKX ⊢
       obtain ⟨tm,htm⟩:∃ n,T.length - 1=n:=⟨_,rfl⟩
       rw [htm] at hks1 hksl
       have HTM:=hid htm
       have hwt:wrap64 (tm:Int)=(tm:Int):=by have:=HSH.out.2.2.2;unfold wrap64;omega
       clear htk htm
       go_upto_region 14 with fail
       clear a0 a1
       rw [← HTM.out,HKX.out]
       have x3:W6.cell? ⟨bf,3,none⟩=some (.slice (some ⟨gs,0,none⟩) f.slots.length f.slots.length):=cell_hp HX6.out.fb 3
       have y1:W6.cell? ⟨w.heap.size+1,1,none⟩=some (.string (kt K)):=cell_hp HX6.out.sb 1
       have HSV:Hid (R.OkVaS f.slots∧f.slots.length≤1048576∧R.OkVaS f.stack∧f.stack.length≤1048576):=hid (by have h1:=HOF.out;have h2:=HLF.out;rw [HFX.out] at h1 h2;exact ⟨h1.2.2.2.1,h2.1.1,h1.2.2.2.2,h2.2.1⟩)
       by_cases hq1:SlotsOk f.slots K
       ·have HQ1:=hid (says_tr (implSlots_any f.slots K W6 HSH.out.2.1 HSV.out.1 HSV.out.2.1 (HVS4.out.next HB46.out)) hq1)
        have HP1:=hid hq1
        clear hq1
        by_cases hq2:StackOk f.stack (T.take (T.length - 1))
        ·have HQ2:Hid (∀ V,Below W2.heap.size W2 V→Calls Tryz.prog 98 #[.slice (some ⟨gt,0,none⟩) f.stack.length f.stack.length,.string (kt (T.take (T.length - 1)))] V fun e w'=>e=.returned (.bool true)∧Below V.heap.size V w'):=hid fun V hV=>says_tr (implStack_any f.stack (T.take (T.length - 1)) V (ok10_take HSH.out.2.2.1 _) HSV.out.2.2.1 HSV.out.2.2.2 (HVT2.out.next hV)) hq2
         have HP2:=hid hq2
         clear hq2
         go_wp2_with (first | (go_at_call 97;refine HQ1.out.mono ?_;rintro e w8 ⟨rfl,hb8⟩;have HB8:=hid (HB6.out.trans (hb8.mono HB6.out.size));have HX8:=hid (HX6.out.next hb8);have x4:w8.cell? ⟨bf,4,none⟩=some (.slice (some ⟨gt,0,none⟩) f.stack.length f.stack.length):=cell_hp HX8.out.fb 4;clear hb8 x3 y1) | (go_at_call 98;refine (HQ2.out _ HB8.out).mono ?_;rintro e w9 ⟨rfl,hb9⟩;have HX9:=hid (HX8.out.next hb9);clear hb9))
         go_ret
         exact ⟨says_t (HE9.out HP1.out HP2.out),HX9.out.mx.lo⟩
        ·have HQ2:Hid (∀ V,Below W2.heap.size W2 V→Calls Tryz.prog 98 #[.slice (some ⟨gt,0,none⟩) f.stack.length f.stack.length,.string (kt (T.take (T.length - 1)))] V fun e w'=>e=.returned (.bool false)∧Below V.heap.size V w'):=hid fun V hV=>says_fa (implStack_any f.stack (T.take (T.length - 1)) V (ok10_take HSH.out.2.2.1 _) HSV.out.2.2.1 HSV.out.2.2.2 (HVT2.out.next hV)) hq2
         have HP2:=hid hq2
         clear hq2
         go_wp2_with (first | (go_at_call 97;refine HQ1.out.mono ?_;rintro e w8 ⟨rfl,hb8⟩;have HB8:=hid (HB6.out.trans (hb8.mono HB6.out.size));have HX8:=hid (HX6.out.next hb8);have x4:w8.cell? ⟨bf,4,none⟩=some (.slice (some ⟨gt,0,none⟩) f.stack.length f.stack.length):=cell_hp HX8.out.fb 4;clear hb8 x3 y1) | (go_at_call 98;refine (HQ2.out _ HB8.out).mono ?_;rintro e w9 ⟨rfl,hb9⟩;have HX9:=hid (HX8.out.next hb9);clear hb9))
         go_ret
         exact ⟨says_f fun h=>HP2.out (HO9.out h).2,HX9.out.mx.lo⟩
       ·have HQ1:=hid (says_fa (implSlots_any f.slots K W6 HSH.out.2.1 HSV.out.1 HSV.out.2.1 (HVS4.out.next HB46.out)) hq1)
        have HP1:=hid hq1
        clear hq1
        go_wp2_with (go_at_call 97;refine HQ1.out.mono ?_;rintro e w8 ⟨rfl,hb8⟩;have HB8:=hid (HB6.out.trans (hb8.mono HB6.out.size));have HX8:=hid (HX6.out.next hb8);have x4:w8.cell? ⟨bf,4,none⟩=some (.slice (some ⟨gt,0,none⟩) f.stack.length f.stack.length):=cell_hp HX8.out.fb 4;clear hb8 x3 y1)
        go_ret
        exact ⟨says_f fun h=>HP1.out (HO9.out h).1,HX8.out.mx.lo⟩
      ·have h8b:(qo == 8)=false:=by simpa using h8
       have H89:Hid (qo=9):=hid ((awaits_op HAWS.out).1.resolve_left h8)
       clear h8
       obtain ⟨na,hna⟩:∃ n:Nat,qa=n:=⟨qa.toNat,by have:=HJ9.out H89.out;simp only at this;omega⟩
       have hnal:na < fns.length:=by have:=HJ9.out H89.out;simp only at this;omega
       have hnai:(na:Int) < (fns.length:Int):=by omega
       have HRQ:Hid (¬ (fns.getD na fn0).result=0):=hid (by have h9:=HG.out.resolve_left (by show ¬ qo=8;rw [H89.out];decide);simp only at h9;rw [hna] at h9;exact h9)
       obtain ⟨_,r2⟩:=fnr_at (HFV.out.next HB6.out) hnal
       rw [hna] at a1
       obtain ⟨rz,hrz⟩:∃ z,(fns.getD na fn0).result=z:=⟨_,rfl⟩
       rw [hrz] at r2 HRQ
       have hrb:(rz != 0)=true:=by have:=HRQ.out;simpa using this
       clear hrz hna
       have HKS:Hid ((kt T).size=T.length):=hid (C.kt_size T)
       have HKX:Hid ((kt T).extract 0 (T.length - 1)=kt (T.take (T.length - 1))):=hid (C.kt_take T _)
       have hks1:((kt T).size:Int) - 1=((T.length - 1:Nat):Int):=by have:=HKS.out;have:=HT1.out;omega
       have hksl:(T.length - 1:Nat)≤(kt T).size:=by have:=HKS.out;omega
       obtain ⟨tk,htk⟩:∃ b,kt T=b:=⟨_,rfl⟩
       have HTK:=hid htk
       rw [htk] at hks1 hksl HKX ⊢
       obtain ⟨tm,htm⟩:∃ n,T.length - 1=n:=⟨_,rfl⟩
       rw [htm] at hks1 hksl
       have HTM:=hid htm
       have hwt:wrap64 (tm:Int)=(tm:Int):=by have:=HSH.out.2.2.2;unfold wrap64;omega
       clear htk htm
       go_upto_region 14 with fail
       clear a0 a1
       rw [← HTM.out,HKX.out]
       have x3:W6.cell? ⟨bf,3,none⟩=some (.slice (some ⟨gs,0,none⟩) f.slots.length f.slots.length):=cell_hp HX6.out.fb 3
       have y1:W6.cell? ⟨w.heap.size+1,1,none⟩=some (.string (kt K)):=cell_hp HX6.out.sb 1
       have HSV:Hid (R.OkVaS f.slots∧f.slots.length≤1048576∧R.OkVaS f.stack∧f.stack.length≤1048576):=hid (by have h1:=HOF.out;have h2:=HLF.out;rw [HFX.out] at h1 h2;exact ⟨h1.2.2.2.1,h2.1.1,h1.2.2.2.2,h2.2.1⟩)
       by_cases hq1:SlotsOk f.slots K
       ·have HQ1:=hid (says_tr (implSlots_any f.slots K W6 HSH.out.2.1 HSV.out.1 HSV.out.2.1 (HVS4.out.next HB46.out)) hq1)
        have HP1:=hid hq1
        clear hq1
        by_cases hq2:StackOk f.stack (T.take (T.length - 1))
        ·have HQ2:Hid (∀ V,Below W2.heap.size W2 V→Calls Tryz.prog 98 #[.slice (some ⟨gt,0,none⟩) f.stack.length f.stack.length,.string (kt (T.take (T.length - 1)))] V fun e w'=>e=.returned (.bool true)∧Below V.heap.size V w'):=hid fun V hV=>says_tr (implStack_any f.stack (T.take (T.length - 1)) V (ok10_take HSH.out.2.2.1 _) HSV.out.2.2.1 HSV.out.2.2.2 (HVT2.out.next hV)) hq2
         have HP2:=hid hq2
         clear hq2
         go_wp2_with (first | (go_at_call 97;refine HQ1.out.mono ?_;rintro e w8 ⟨rfl,hb8⟩;have HB8:=hid (HB6.out.trans (hb8.mono HB6.out.size));have HX8:=hid (HX6.out.next hb8);have x4:w8.cell? ⟨bf,4,none⟩=some (.slice (some ⟨gt,0,none⟩) f.stack.length f.stack.length):=cell_hp HX8.out.fb 4;clear hb8 x3 y1) | (go_at_call 98;refine (HQ2.out _ HB8.out).mono ?_;rintro e w9 ⟨rfl,hb9⟩;have HX9:=hid (HX8.out.next hb9);clear hb9))
         go_ret
         exact ⟨says_t (HE9.out HP1.out HP2.out),HX9.out.mx.lo⟩
        ·have HQ2:Hid (∀ V,Below W2.heap.size W2 V→Calls Tryz.prog 98 #[.slice (some ⟨gt,0,none⟩) f.stack.length f.stack.length,.string (kt (T.take (T.length - 1)))] V fun e w'=>e=.returned (.bool false)∧Below V.heap.size V w'):=hid fun V hV=>says_fa (implStack_any f.stack (T.take (T.length - 1)) V (ok10_take HSH.out.2.2.1 _) HSV.out.2.2.1 HSV.out.2.2.2 (HVT2.out.next hV)) hq2
         have HP2:=hid hq2
         clear hq2
         go_wp2_with (first | (go_at_call 97;refine HQ1.out.mono ?_;rintro e w8 ⟨rfl,hb8⟩;have HB8:=hid (HB6.out.trans (hb8.mono HB6.out.size));have HX8:=hid (HX6.out.next hb8);have x4:w8.cell? ⟨bf,4,none⟩=some (.slice (some ⟨gt,0,none⟩) f.stack.length f.stack.length):=cell_hp HX8.out.fb 4;clear hb8 x3 y1) | (go_at_call 98;refine (HQ2.out _ HB8.out).mono ?_;rintro e w9 ⟨rfl,hb9⟩;have HX9:=hid (HX8.out.next hb9);clear hb9))
         go_ret
         exact ⟨says_f fun h=>HP2.out (HO9.out h).2,HX9.out.mx.lo⟩
       ·have HQ1:=hid (says_fa (implSlots_any f.slots K W6 HSH.out.2.1 HSV.out.1 HSV.out.2.1 (HVS4.out.next HB46.out)) hq1)
        have HP1:=hid hq1
        clear hq1
        go_wp2_with (go_at_call 97;refine HQ1.out.mono ?_;rintro e w8 ⟨rfl,hb8⟩;have HB8:=hid (HB6.out.trans (hb8.mono HB6.out.size));have HX8:=hid (HX6.out.next hb8);have x4:w8.cell? ⟨bf,4,none⟩=some (.slice (some ⟨gt,0,none⟩) f.stack.length f.stack.length):=cell_hp HX8.out.fb 4;clear hb8 x3 y1)
        go_ret
        exact ⟨says_f fun h=>HP1.out (HO9.out h).1,HX8.out.mx.lo⟩
     ·have HG:=hid hg
      clear hg
      have HLI:Hid (lies x i A=T):=hid (by rw [lies_no HAWS.out (by rw [HFO.out];exact HG.out),HKT.out.2])
      have HSO:Hid (Stands x i A):=hid (HSD.out)
      have HE9:Hid (SlotsOk f.slots K→StackOk f.stack (T)→RngOk x i∧FrameOk x i):=hid fun h1 h2=>⟨HRNG.out,HIFF.out.2 ⟨HPL.out,HA1.out,by rw [HFX.out,← HFX.out,HKT.out.1,HFX.out];exact h1,HSO.out,by rw [HLI.out,HFX.out];exact h2⟩⟩
      have HO9:Hid (RngOk x i∧FrameOk x i→SlotsOk f.slots K∧StackOk f.stack (T)):=hid fun h=>by
       obtain ⟨_,_,a,_,b⟩:=HIFF.out.1 h.2
       rw [HKT.out.1,HFX.out] at a
       rw [HLI.out,HFX.out] at b
       exact ⟨a,b⟩
      have h8b:(qo == 8)=false:=by have:=fun h=>HG.out (.inl h);simpa using this
      have H89:Hid (qo=9):=hid ((awaits_op HAWS.out).1.resolve_left fun h=>HG.out (.inl h))
      obtain ⟨na,hna⟩:∃ n:Nat,qa=n:=⟨qa.toNat,by have:=HJ9.out H89.out;simp only at this;omega⟩
      have hnal:na < fns.length:=by have:=HJ9.out H89.out;simp only at this;omega
      have hnai:(na:Int) < (fns.length:Int):=by omega
      have HRQ:Hid ((fns.getD na fn0).result=0):=hid (by have h9:=fun h=>HG.out (.inr h);simp only at h9;rw [hna] at h9;exact Decidable.not_not.1 h9)
      obtain ⟨_,r2⟩:=fnr_at (HFV.out.next HB6.out) hnal
      rw [hna] at a1
      obtain ⟨rz,hrz⟩:∃ z,(fns.getD na fn0).result=z:=⟨_,rfl⟩
      rw [hrz] at r2 HRQ
      have hrb:(rz != 0)=false:=by have:=HRQ.out;simp [this]
      clear hrz hna
      go_upto_region 14 with fail
      clear a0 a1
      have x3:W6.cell? ⟨bf,3,none⟩=some (.slice (some ⟨gs,0,none⟩) f.slots.length f.slots.length):=cell_hp HX6.out.fb 3
      have y1:W6.cell? ⟨w.heap.size+1,1,none⟩=some (.string (kt K)):=cell_hp HX6.out.sb 1
      have HSV:Hid (R.OkVaS f.slots∧f.slots.length≤1048576∧R.OkVaS f.stack∧f.stack.length≤1048576):=hid (by have h1:=HOF.out;have h2:=HLF.out;rw [HFX.out] at h1 h2;exact ⟨h1.2.2.2.1,h2.1.1,h1.2.2.2.2,h2.2.1⟩)
      by_cases hq1:SlotsOk f.slots K
      ·have HQ1:=hid (says_tr (implSlots_any f.slots K W6 HSH.out.2.1 HSV.out.1 HSV.out.2.1 (HVS4.out.next HB46.out)) hq1)
       have HP1:=hid hq1
       clear hq1
       by_cases hq2:StackOk f.stack T
       ·have HQ2:Hid (∀ V,Below W2.heap.size W2 V→Calls Tryz.prog 98 #[.slice (some ⟨gt,0,none⟩) f.stack.length f.stack.length,.string (kt T)] V fun e w'=>e=.returned (.bool true)∧Below V.heap.size V w'):=hid fun V hV=>says_tr (implStack_any f.stack T V (HSH.out.2.2.1) HSV.out.2.2.1 HSV.out.2.2.2 (HVT2.out.next hV)) hq2
        have HP2:=hid hq2
        clear hq2
        go_wp2_with (first | (go_at_call 97;refine HQ1.out.mono ?_;rintro e w8 ⟨rfl,hb8⟩;have HB8:=hid (HB6.out.trans (hb8.mono HB6.out.size));have HX8:=hid (HX6.out.next hb8);have x4:w8.cell? ⟨bf,4,none⟩=some (.slice (some ⟨gt,0,none⟩) f.stack.length f.stack.length):=cell_hp HX8.out.fb 4;clear hb8 x3 y1) | (go_at_call 98;refine (HQ2.out _ HB8.out).mono ?_;rintro e w9 ⟨rfl,hb9⟩;have HX9:=hid (HX8.out.next hb9);clear hb9))
        go_ret
        exact ⟨says_t (HE9.out HP1.out HP2.out),HX9.out.mx.lo⟩
       ·have HQ2:Hid (∀ V,Below W2.heap.size W2 V→Calls Tryz.prog 98 #[.slice (some ⟨gt,0,none⟩) f.stack.length f.stack.length,.string (kt T)] V fun e w'=>e=.returned (.bool false)∧Below V.heap.size V w'):=hid fun V hV=>says_fa (implStack_any f.stack T V (HSH.out.2.2.1) HSV.out.2.2.1 HSV.out.2.2.2 (HVT2.out.next hV)) hq2
        have HP2:=hid hq2
        clear hq2
        go_wp2_with (first | (go_at_call 97;refine HQ1.out.mono ?_;rintro e w8 ⟨rfl,hb8⟩;have HB8:=hid (HB6.out.trans (hb8.mono HB6.out.size));have HX8:=hid (HX6.out.next hb8);have x4:w8.cell? ⟨bf,4,none⟩=some (.slice (some ⟨gt,0,none⟩) f.stack.length f.stack.length):=cell_hp HX8.out.fb 4;clear hb8 x3 y1) | (go_at_call 98;refine (HQ2.out _ HB8.out).mono ?_;rintro e w9 ⟨rfl,hb9⟩;have HX9:=hid (HX8.out.next hb9);clear hb9))
        go_ret
        exact ⟨says_f fun h=>HP2.out (HO9.out h).2,HX9.out.mx.lo⟩
      ·have HQ1:=hid (says_fa (implSlots_any f.slots K W6 HSH.out.2.1 HSV.out.1 HSV.out.2.1 (HVS4.out.next HB46.out)) hq1)
       have HP1:=hid hq1
       clear hq1
       go_wp2_with (go_at_call 97;refine HQ1.out.mono ?_;rintro e w8 ⟨rfl,hb8⟩;have HB8:=hid (HB6.out.trans (hb8.mono HB6.out.size));have HX8:=hid (HX6.out.next hb8);have x4:w8.cell? ⟨bf,4,none⟩=some (.slice (some ⟨gt,0,none⟩) f.stack.length f.stack.length):=cell_hp HX8.out.fb 4;clear hb8 x3 y1)
       go_ret
       exact ⟨says_f fun h=>HP1.out (HO9.out h).1,HX8.out.mx.lo⟩
    ·have heb:eqIB jo ja jn jt qo qa qn qt=false:=Bool.eq_false_iff.2 fun h=>he (eqIB_iff.1 h)
     have HNS:Hid (¬ (RngOk x i∧FrameOk x i)):=hid fun h=>he (HIN.out.trans (HST9.out.2 (HIFF.out.1 h.2).2.2.2.1))
     rw [heb] at hneq
     clear he heb
     go_wp2_with fail
     go_ret
     exact ⟨says_f HNS.out,HX6.out.mx.lo⟩
 ·have HNR:=hid (stood_no HS.out hst)
  have hb:(st != 1)=true:=by simpa using hst
  clear hst
  go_wp2_with fail
  go_ret
  exact ⟨says_f HNR.out,HX1.out.lo⟩
end Go.Proofs.YtbkmglknbflkhaaGreatDoor.M
