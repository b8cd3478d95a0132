import Derived.Laws.CopyOwn
import Derived.Deep.DeepWitnessRowRef
import Derived.Test.YtbkmglknbflkhaaGreatDoorJ49
import Derived.Test.YtbkmglknbflkhaaGreatDoorJ52
import Derived.Test.YtbkmglknbflkhaaGreatDoorJ51
import Derived.Test.YtbkmglknbflkhaaGreatDoorJ32
import Derived.Test.YtbkmglknbflkhaaGreatDoorJ45
import Derived.Test.YtbkmglknbflkhaaGreatDoorJ46
import Derived.Test.YtbkmglknbflkhaaGreatDoorJ06
import Derived.Test.YtbkmglknbflkhaaGreatDoorJ19
namespace Go.Proofs.YtbkmglknbflkhaaGreatDoor.M
open Go.RowKit
open C (In Sh in0 fn0 FnR Least ShRow IntRow InsRow lt_hp cell_hp hp_next)
open Go.Proofs.YtbkmglknbflkhaaGreatDoor.J (Says says_t says_f)
open Go.Proofs.YtbkmglknbflkhaaGreatDoor.R (hid)
set_option maxRecDepth 20000
set_option maxHeartbeats 40000000 in
theorem specFrame_any (x:R.Mc) {v0 v1 v2 v3 v4 v5:Value} {B:Nat} (w:World) (h:MK B w x v0 v1 v2 v3 v4 v5) (hx:R.OkFmS x.frames) (hlf:R.LoFmS x.frames) (hlc:R.LoCdS x.codes) (hok:CodesOk x) (hkd:x.kind=0∨(1≤x.kind∧x.kind≤4))
  {k:Nat} (hk:k < x.frames.length) (hall:∀ k,k < x.frames.length→UpOk x k∧RngOk x k) :
  Calls Tryz.prog 56 #[mval x v0 v1 v2 v3 v4 v5,.int .i64 k] w fun e w'=>Says e (FrameOk x k)∧Below w.heap.size w w':=by
 have HK:=hid h
 obtain ⟨gf,rfl⟩:=h.k3.sl
 obtain ⟨gc,rfl⟩:=h.k0.sl
 have hfl:x.frames.length≤1048576:=hlf.1
 have hcl:=hlc.1
 have HRF:=hid (hall k hk).2
 have hof:R.OkFm (fr x k):=hx.2 k hk
 have HOF:=hid hof
 have hlo:R.LoFm (fr x k):=hlf.2 k hk
 have HLF:=hid hlo
 have HKD:=hid hkd
 have HLC:=hid hlc
 obtain ⟨cc,hcc⟩:∃ n:Nat,(fr x k).code=n:=⟨(fr x k).code.toNat,by have:=HRF.out.1;omega⟩
 have hcl2:cc < x.codes.length:=by have:=HRF.out.1;omega
 obtain ⟨ff,hff⟩:∃ n:Nat,(fr x k).fn=n:=⟨(fr x k).fn.toNat,by have:=HRF.out.2.1;omega⟩
 have HCK:=hid (hok cc hcl2)
 have HFO:Hid (fnsOf x (fr x k).code=(x.codes.getD cc R.cd0).fns):=hid (by unfold fnsOf;rw [hcc];rfl)
 have HLFN:Hid (R.LoFnS (x.codes.getD cc R.cd0).fns):=hid (hlc.2 cc hcl2)
 have hfn2:ff < (x.codes.getD cc R.cd0).fns.length:=by have:=HRF.out.2.1;rw [HFO.out,hff] at this;omega
 clear h hx hlf hok hkd hall hof hlo hlc
 obtain ⟨fns,hfe⟩:∃ l,(x.codes.getD cc R.cd0).fns=l:=⟨_,rfl⟩
 rw [hfe] at HFO HCK HLFN hfn2
 have HFE:=hid hfe
 have HFN:Hid (fnOf x k=fns.getD ff fn0):=hid (by unfold fnOf;rw [HFO.out,hff];rfl)
 have HPN:=hid (plain_of HCK.out)
 have HFR:Hid (∀ g ∈ fns,FnR fns g):=hid (C.plain_right HPN.out).1
 have hmem:fns.getD ff fn0 ∈ fns:=by rw [List.getD_eq_getElem?_getD,List.getElem?_eq_getElem hfn2];exact List.getElem_mem hfn2
 have HFF:=hid (HFR.out _ hmem)
 have HFIT:=hid (fit_of HCK.out hfn2)
 clear hfe hmem
 obtain ⟨f,hfx⟩:∃ f,fr x k=f:=⟨_,rfl⟩
 have HFX:=hid hfx
 have HCD:Hid (f.code=(cc:Int)∧f.fn=(ff:Int)):=hid (by rw [← HFX.out];exact ⟨hcc,hff⟩)
 clear hcc hff hfx
 go_enter Tryz.func56,Tryz.ntmps56
 go_upto_region 1 with fail
 have HX1:=hid (MX.start w x (.slice (some ⟨gc,0,none⟩) x.codes.length x.codes.length) v1 v2 (.slice (some ⟨gf,0,none⟩) x.frames.length x.frames.length) v4 v5)
 obtain ⟨W1,hW1⟩:∃ W,w.alloc (.cells #[.slice (some ⟨gc,0,none⟩) x.codes.length x.codes.length,v1,v2,.slice (some ⟨gf,0,none⟩) x.frames.length x.frames.length,.int .i64 x.steps,.int .i64 x.looks,.int .i64 x.kind,.string x.name,.string x.hold,.bool x.over,.int .i64 x.fin,.string x.text,v4,v5] 34)=W:=⟨_,rfl⟩
 rw [hW1] at HX1 ⊢
 clear hW1
 have c3:=HX1.out.c3
 obtain ⟨_,s,t,d0,d1,d2,d3,d4,hs,ht⟩:=fm_at (HK.out.next HX1.out.lo).k3 hk
 have HVS:=hid hs
 have HVT:=hid ht
 obtain ⟨gs,rfl⟩:=hs.sl
 obtain ⟨gt,rfl⟩:=ht.sl
 clear hs ht
 have hfr9:x.frames.getD k R.fm0=f:=HFX.out
 rw [hfr9] at d0 d1 d2 d3 d4 HVS HVT
 clear hfr9
 have hki:(k:Int) < (x.frames.length:Int):=by omega
 go_upto_region 2 with fail
 have HAL:=hid ((Below.refl W1.heap.size W1).alloc (Nat.le_refl _) (.cells #[.int .i64 f.code,.int .i64 f.fn,.int .i64 f.pl,.slice (some ⟨gs,0,none⟩) f.slots.length f.slots.length,.slice (some ⟨gt,0,none⟩) f.stack.length f.stack.length] 86))
 have HX2:=hid (HX1.out.next HAL.out)
 have HFB:Hid ((W1.alloc (.cells #[.int .i64 f.code,.int .i64 f.fn,.int .i64 f.pl,.slice (some ⟨gs,0,none⟩) f.slots.length f.slots.length,.slice (some ⟨gt,0,none⟩) f.stack.length f.stack.length] 86)).heap[W1.heap.size]?=some (.cells #[.int .i64 f.code,.int .i64 f.fn,.int .i64 f.pl,.slice (some ⟨gs,0,none⟩) f.slots.length f.slots.length,.slice (some ⟨gt,0,none⟩) f.stack.length f.stack.length] 86)):=hid (heap_alloc_new _ _)
 have HVS2:=hid (HVS.out.next HAL.out)
 have HVT2:=hid (HVT.out.next HAL.out)
 obtain ⟨W2,hW2⟩:∃ W,W1.alloc (.cells #[.int .i64 f.code,.int .i64 f.fn,.int .i64 f.pl,.slice (some ⟨gs,0,none⟩) f.slots.length f.slots.length,.slice (some ⟨gt,0,none⟩) f.stack.length f.stack.length] 86)=W:=⟨_,rfl⟩
 rw [hW2] at HX2 HFB HVS2 HVT2 ⊢
 obtain ⟨bf,hbf⟩:∃ b,W1.heap.size=b:=⟨_,rfl⟩
 rw [hbf] at HFB ⊢
 clear hW2 hbf c3 d0 d1 d2 d3 d4 HX1 HVS HVT HAL
 obtain ⟨hgc,fv,g0,hfns⟩:=cd_at (HK.out.next HX2.out.lo).k0 hcl2
 rw [HFE.out] at hfns
 have HFV:=hid hfns
 obtain ⟨gn,rfl⟩:=hfns.sl
 clear hfns
 have HFW:=hid (C.fnsRow_of HFV.out HLFN.out)
 obtain ⟨gn2,cn2,e9,hgn,pv,iv,n0,n1,n2,n3,n4,hpv,hiv⟩:=HFW.out.at hfn2
 injection e9 with ea en ec
 injection ea with ea2
 injection ea2 with ea3
 subst ea3
 clear en ec
 have HIR:=hid hiv
 obtain ⟨aP,cP,rfl⟩:=hpv.sl
 obtain ⟨gI,cI,rfl,hgI,_⟩:=hiv.at (show 0 < (fns.getD ff fn0).ins.length from HFF.out.some_.1)
 clear hpv hiv
 obtain ⟨fn,hfn⟩:∃ q,fns.getD ff fn0=q:=⟨_,rfl⟩
 have HFQ:=hid hfn
 rw [hfn] at n0 n1 n2 n3 n4 HFN HFF HFIT HIR
 clear hfn
 have hffi:(ff:Int) < (fns.length:Int):=by omega
 have hcci:(cc:Int) < (x.codes.length:Int):=by omega
 have m0:=HX2.out.c0
 have o0:W2.cell? ⟨bf,0,none⟩=some (.int .i64 (cc:Int)):=(cell_hp HFB.out 0).trans (by rw [← HCD.out.1];rfl)
 have o1:W2.cell? ⟨bf,1,none⟩=some (.int .i64 (ff:Int)):=(cell_hp HFB.out 1).trans (by rw [← HCD.out.2];rfl)
 have HM2:Hid (∀ V,Below W2.heap.size W2 V→V.cell? ⟨w.heap.size,0,none⟩=some (.slice (some ⟨gc,0,none⟩) x.codes.length x.codes.length)∧V.cell? ⟨bf,0,none⟩=some (.int .i64 (cc:Int))∧V.cell? ⟨bf,1,none⟩=some (.int .i64 (ff:Int))∧V.cell? ⟨gc,cc,none⟩=some (.slice (some ⟨gn,0,none⟩) fns.length fns.length)):=hid fun V hV=>⟨(HX2.out.next hV).c0,(cell_hp (hp_next HFB.out hV) 0).trans (by rw [← HCD.out.1];rfl),(cell_hp (hp_next HFB.out hV) 1).trans (by rw [← HCD.out.2];rfl),(hV.cell (p:=⟨gc,cc,none⟩) hgc).trans g0⟩
 have HA2:Hid (∀ (q:Addr) (o:Obj) (v:Value),q.block < W2.heap.size→W2.cell? q=some v→(W2.alloc o).cell? q=some v):=hid fun q o v h e=>(((Below.refl W2.heap.size W2).alloc (Nat.le_refl _) o).cell h).trans e
 have a0:=fun o=>HA2.out ⟨w.heap.size,0,none⟩ o _ (lt_hp HX2.out.e) m0
 have a1:=fun o=>HA2.out ⟨bf,0,none⟩ o _ (lt_hp HFB.out) o0
 have a2:=fun o=>HA2.out ⟨bf,1,none⟩ o _ (lt_hp HFB.out) o1
 have a3:=fun o=>HA2.out ⟨gc,cc,none⟩ o _ hgc g0
 have a4:=fun o=>HA2.out ⟨gn,ff * 5,none⟩ o _ hgn n0
 have a5:=fun o=>HA2.out ⟨gn,ff * 5+1,none⟩ o _ hgn n1
 have a6:=fun o=>HA2.out ⟨gn,ff * 5+2,none⟩ o _ hgn n2
 have a7:=fun o=>HA2.out ⟨gn,ff * 5+3,none⟩ o _ hgn n3
 have a8:=fun o=>HA2.out ⟨gn,ff * 5+4,none⟩ o _ hgn n4
 go_region
 have HAN:=hid ((Below.refl W2.heap.size W2).alloc (Nat.le_refl _) (.cells #[.string fn.name,.slice aP fn.params.length cP,.int .i64 fn.result,.int .i64 fn.slots,.slice (some ⟨gI,0,none⟩) fn.ins.length cI] 125)).drew
 have HX3:Hid (FX w x (.slice (some ⟨gc,0,none⟩) x.codes.length x.codes.length) v1 v2 (.slice (some ⟨gf,0,none⟩) x.frames.length x.frames.length) v4 v5 f (.slice (some ⟨gs,0,none⟩) f.slots.length f.slots.length) (.slice (some ⟨gt,0,none⟩) f.stack.length f.stack.length) bf fn (.slice aP fn.params.length cP) (.slice (some ⟨gI,0,none⟩) fn.ins.length cI) W2.heap.size (W2.alloc (.cells #[.string fn.name,.slice aP fn.params.length cP,.int .i64 fn.result,.int .i64 fn.slots,.slice (some ⟨gI,0,none⟩) fn.ins.length cI] 125)).drew):=hid ⟨HX2.out.next HAN.out,hp_next HFB.out HAN.out,heap_alloc_new _ _⟩
 obtain ⟨W3,hW3⟩:∃ W,(W2.alloc (.cells #[.string fn.name,.slice aP fn.params.length cP,.int .i64 fn.result,.int .i64 fn.slots,.slice (some ⟨gI,0,none⟩) fn.ins.length cI] 125)).drew=W:=⟨_,rfl⟩
 rw [hW3] at HX3 HAN ⊢
 obtain ⟨bn,hbn⟩:∃ b,W2.heap.size=b:=⟨_,rfl⟩
 have HBN:=hid hbn
 rw [hbn] at HX3 ⊢
 clear hW3 hbn a0 a1 a2 a3 a4 a5 a6 a7 a8 m0 o0 o1 g0 n0 n1 n2 n3 n4
 have HB3:Hid (Below W2.heap.size W2 W3):=hid HAN.out
 have o2:W3.cell? ⟨bf,2,none⟩=some (.int .i64 f.pl):=cell_hp HX3.out.fb 2
 have q4:W3.cell? ⟨bn,4,none⟩=some (.slice (some ⟨gI,0,none⟩) fn.ins.length cI):=cell_hp HX3.out.nb 4
 have hil:=HFF.out.some_.2
 by_cases hpr:0≤f.pl∧f.pl < fn.ins.length
 ·have HPR:=hid hpr
  clear hpr
  by_cases hsl:(f.slots.length:Int)=fn.slots
  ·have HSL:=hid hsl
   have hslb:((f.slots.length:Int) != fn.slots)=false:=by simpa using hsl
   clear hsl
   go_upto_region 5 with (go_at_call 22;refine (in_gr _ _ _ _ (inB_t (by have:=HPR.out;omega))).mono ?_;rintro e w4 ⟨rfl,hb4⟩;have HX4:=hid (HX3.out.next hb4);have HB4:=hid hb4;have o3:w4.cell? ⟨bf,3,none⟩=some (.slice (some ⟨gs,0,none⟩) f.slots.length f.slots.length):=cell_hp HX4.out.fb 3;have q3:w4.cell? ⟨bn,3,none⟩=some (.int .i64 fn.slots):=cell_hp HX4.out.nb 3;clear hb4 o2 q4)
   clear o3 q3 hslb
   have HX4b:=hid HX4.out
   have HB24:=hid (HB3.out.trans (HB4.out.mono HB3.out.size))
   have HSH:Hid (∀ V,Below w4.heap.size w4 V→Calls Tryz.prog 81 #[.agg #[.slice (some ⟨gn,0,none⟩) fns.length fns.length],.int .i64 (ff:Int)] V (C.ShpEnd fns fn V)):=hid fun V hV=>by
    have:=C.shapes_any (HFW.out.next (HB24.out.trans (hV.mono HB24.out.size))) hfn2 HFR.out
    rwa [HFQ.out] at this
   have HG4:Hid (∀ V,Below w4.heap.size w4 V→V.cell? ⟨gc,cc,none⟩=some (.slice (some ⟨gn,0,none⟩) fns.length fns.length)):=hid fun V hV=>(HM2.out V (HB24.out.trans (hV.mono HB24.out.size))).2.2.2
   have HO4:Hid (∀ V,Below w4.heap.size w4 V→V.cell? ⟨bf,0,none⟩=some (.int .i64 (cc:Int))∧V.cell? ⟨bf,1,none⟩=some (.int .i64 (ff:Int))):=hid fun V hV=>⟨(HM2.out V (HB24.out.trans (hV.mono HB24.out.size))).2.1,(HM2.out V (HB24.out.trans (hV.mono HB24.out.size))).2.2.1⟩
   refine wp_region_held_drew (S:=fun V=>Below w4.heap.size w4 V) (by kernel_rfl) (Below.refl _ _).drew (fun hHeld=>?_)
   refine wpAnyH_take (i:=0) (v:=.pointer (some ⟨w.heap.size,0,none⟩)) rfl (by kernel_rfl) (by kernel_rfl) (by kernel_rfl) (fun _ _ _ h=>h) (Or.inl ⟨by rfl,fun V _=>by kernel_rfl⟩) (hHeld) ?_
   simp only [Act.put,List.getElem_toArray,List.getElem_cons_zero,List.setIfInBounds_toArray,List.set_cons_zero,List.set_cons_succ]
   refine wpAnyH_take (i:=1) (v:=.slice (some ⟨gc,0,none⟩) x.codes.length x.codes.length) rfl (by kernel_rfl) (by kernel_rfl) (by kernel_rfl) (fun _ _ _ h=>h) (Or.inl ⟨by rfl,fun V hV=>by have hc:=(HX4.out.next hV).mx.c0;go_simp⟩) (hHeld) ?_
   simp only [Act.put,List.getElem_toArray,List.getElem_cons_zero,List.getElem_cons_succ,List.setIfInBounds_toArray,List.set_cons_zero,List.set_cons_succ]
   refine wpAnyH_take (i:=2) (v:=.pointer (some ⟨bf,0,none⟩)) rfl (by kernel_rfl) (by kernel_rfl) (by kernel_rfl) (fun _ _ _ h=>h) (Or.inl ⟨by rfl,fun V _=>by kernel_rfl⟩) (hHeld) ?_
   simp only [Act.put,List.getElem_toArray,List.getElem_cons_zero,List.getElem_cons_succ,List.setIfInBounds_toArray,List.set_cons_zero,List.set_cons_succ]
   refine wpAnyH_take (i:=3) (v:=.int .i64 (cc:Int)) rfl (by kernel_rfl) (by kernel_rfl) (by kernel_rfl) (fun _ _ _ h=>h) (Or.inl ⟨by rfl,fun V hV=>by have hc:=(HO4.out V hV).1;go_simp⟩) (hHeld) ?_
   simp only [Act.put,List.getElem_toArray,List.getElem_cons_zero,List.getElem_cons_succ,List.setIfInBounds_toArray,List.set_cons_zero,List.set_cons_succ]
   refine wpAnyH_take (i:=4) (v:=.pointer (some ⟨gc,cc,none⟩)) rfl (by kernel_rfl) (by kernel_rfl) (by kernel_rfl) (fun _ _ _ h=>h) (Or.inl ⟨by rfl,fun V _=>by go_simp⟩) (hHeld) ?_
   simp only [Act.put,List.getElem_toArray,List.getElem_cons_zero,List.getElem_cons_succ,List.setIfInBounds_toArray,List.set_cons_zero,List.set_cons_succ]
   refine wpAnyH_take (i:=5) (v:=.agg #[.slice (some ⟨gn,0,none⟩) fns.length fns.length]) rfl (by kernel_rfl) (by kernel_rfl) (by kernel_rfl) (fun _ _ _ h=>h) (Or.inl ⟨by rfl,fun V hV=>by have hc:=HG4.out V hV;go_simp⟩) (hHeld) ?_
   simp only [Act.put,List.getElem_toArray,List.getElem_cons_zero,List.getElem_cons_succ,List.setIfInBounds_toArray,List.set_cons_zero,List.set_cons_succ]
   refine wpAnyH_take (i:=6) (v:=.pointer (some ⟨bf,1,none⟩)) rfl (by kernel_rfl) (by kernel_rfl) (by kernel_rfl) (fun _ _ _ h=>h) (Or.inl ⟨by rfl,fun V _=>by kernel_rfl⟩) (hHeld) ?_
   simp only [Act.put,List.getElem_toArray,List.getElem_cons_zero,List.getElem_cons_succ,List.setIfInBounds_toArray,List.set_cons_zero,List.set_cons_succ]
   refine wpAnyH_take (i:=7) (v:=.int .i64 (ff:Int)) rfl (by kernel_rfl) (by kernel_rfl) (by kernel_rfl) (fun _ _ _ h=>h) (Or.inl ⟨by rfl,fun V hV=>by have hc:=(HO4.out V hV).2;go_simp⟩) (hHeld) ?_
   simp only [Act.put,List.getElem_toArray,List.getElem_cons_zero,List.getElem_cons_succ,List.setIfInBounds_toArray,List.set_cons_zero,List.set_cons_succ]
   refine held_call (i:=8) (by kernel_rfl) rfl rfl (by kernel_rfl) (HSH.out _ hHeld) ?_
   rintro e w9 ⟨gA,A,rfl,_,hrow,hclo,hlow,hb9⟩
   have HB9:=hid (hHeld.trans (hb9.mono hHeld.size))
   have HROW:=hid hrow
   have HL:Hid (Least fns fn A):=hid ⟨hclo,hlow⟩
   clear hrow hclo hlow hb9
   refine ⟨_,rfl,HB9.out,?_⟩
   simp only [Act.put,List.getElem_toArray,List.getElem_cons_zero,List.getElem_cons_succ,List.setIfInBounds_toArray,List.set_cons_zero,List.set_cons_succ]
   refine wpAnyH_take (i:=9) (v:=.slice (some ⟨gA,0,none⟩) fn.ins.length fn.ins.length) rfl (by kernel_rfl) (by kernel_rfl) (by kernel_rfl) (fun _ _ _ h=>h) (Or.inl ⟨by rfl,fun V _=>by kernel_rfl⟩) (HB9.out) ?_
   simp only [Act.put,List.getElem_toArray,List.getElem_cons_zero,List.getElem_cons_succ,List.setIfInBounds_toArray,List.set_cons_zero,List.set_cons_succ]
   refine wpAnyH_done (by kernel_rfl) ?_ _
   have HX9:=hid (HX4.out.next HB9.out)
   have HB29:=hid (HB24.out.trans (HB9.out.mono HB24.out.size))
   clear hHeld HSH HG4 HO4 HX4b
   obtain ⟨p,hp⟩:∃ n:Nat,f.pl=n:=⟨f.pl.toNat,by have:=HPR.out;omega⟩
   have HP:=hid hp
   have hpl:p < fn.ins.length:=by have:=HPR.out;omega
   have hpi:(p:Int) < (fn.ins.length:Int):=by omega
   have HIFF:Hid (FrameOk x k ↔ PlaceOk x k A):=hid (FrameOk.iff (by rw [HFO.out,HFN.out];exact HL.out))
   have HPT:Hid ((fr x k).pl.toNat=p):=hid (by rw [HFX.out,hp];rfl)
   have o2:w9.cell? ⟨bf,2,none⟩=some (.int .i64 (p:Int)):=(cell_hp HX9.out.fb 2).trans (by rw [← hp];rfl)
   obtain ⟨a1,c1,a2,c2,u0,u1,u2,hr1,hr2,_⟩:=HROW.out.at hpl
   have HR1:=hid hr1
   have HR2:=hid hr2
   have HOKS:=hid (HL.out.2.ok p hpl)
   obtain ⟨K,hK⟩:∃ l,(A p).sl=l:=⟨_,rfl⟩
   obtain ⟨T,hT⟩:∃ l,(A p).sk=l:=⟨_,rfl⟩
   have HKT:Hid ((A (fr x k).pl.toNat).sl=K∧(A (fr x k).pl.toNat).sk=T):=hid (by rw [HPT.out];exact ⟨hK,hT⟩)
   have HKP:Hid ((A p).sl=K∧(A p).sk=T):=hid ⟨hK,hT⟩
   rw [hK] at u1 HR1
   rw [hT] at u2 HR2
   clear hp hK hT hr1 hr2
   obtain ⟨sa,hsa⟩:∃ z:Int,(((A p).st:Nat):Int)=z:=⟨_,rfl⟩
   have HSA:=hid hsa
   rw [hsa] at u0
   clear hsa
   go_upto_region 7 with fail
   have HAL:=hid ((Below.refl w9.heap.size w9).alloc (Nat.le_refl _) (.cells #[.int .i64 sa,.slice a1 K.length c1,.slice a2 T.length c2] 121))
   have HXa:=hid (HX9.out.next HAL.out)
   have HRa:=hid (HROW.out.next HAL.out)
   have HSb:Hid ((w9.alloc (.cells #[.int .i64 sa,.slice a1 K.length c1,.slice a2 T.length c2] 121)).heap[w9.heap.size]?=some (.cells #[.int .i64 sa,.slice a1 K.length c1,.slice a2 T.length c2] 121)):=hid (heap_alloc_new _ _)
   have HR1a:=hid (HR1.out.next HAL.out)
   have HR2a:=hid (HR2.out.next HAL.out)
   obtain ⟨wa,hwa⟩:∃ W,w9.alloc (.cells #[.int .i64 sa,.slice a1 K.length c1,.slice a2 T.length c2] 121)=W:=⟨_,rfl⟩
   rw [hwa] at HAL HXa HRa HSb HR1a HR2a ⊢
   obtain ⟨bs,hbs⟩:∃ b,w9.heap.size=b:=⟨_,rfl⟩
   rw [hbs] at HSb ⊢
   have HB2a:=hid (HB29.out.trans (HAL.out.mono HB29.out.size))
   clear hwa hbs u0 u1 u2 o2 HX9 HROW HR1 HR2 HAL
   have s0:wa.cell? ⟨bs,0,none⟩=some (.int .i64 sa):=cell_hp HSb.out 0
   by_cases hsa:sa=1
   ·subst hsa
    have HA1:Hid ((A (fr x k).pl.toNat).st=1):=hid (by rw [HPT.out];have:=HSA.out;omega)
    have HYa:Hid (FY w x (.slice (some ⟨gc,0,none⟩) x.codes.length x.codes.length) v1 v2 (.slice (some ⟨gf,0,none⟩) x.frames.length x.frames.length) v4 v5 f (.slice (some ⟨gs,0,none⟩) f.slots.length f.slots.length) (.slice (some ⟨gt,0,none⟩) f.stack.length f.stack.length) bf fn (.slice aP fn.params.length cP) (.slice (some ⟨gI,0,none⟩) fn.ins.length cI) bn gA A bs (.slice a1 K.length c1) (.slice a2 T.length c2) K T wa):=hid ⟨HXa.out,HRa.out,HSb.out,HR1a.out,HR2a.out⟩
    have HKL:Hid (K.length=f.slots.length):=hid (by have h9:=(ok10_sh HOKS.out (by have:=HA1.out;rwa [HPT.out] at this)).1;rw [HKP.out.1] at h9;have h8:=HSL.out;unfold C.Fn.S at h9;omega)
    have HVO:Hid (R.OkVaS f.slots∧f.slots.length≤1048576∧R.OkVaS f.stack∧f.stack.length≤1048576):=hid (by have h1:=HOF.out;have h2:=HLF.out;rw [HFX.out] at h1 h2;exact ⟨h1.2.2.2.1,h2.1.1,h1.2.2.2.2,h2.2.1⟩)
    clear HX2 HFB HM2 HA2 HAN HX3 HBN HB3 HX4 HB4 HB24 HB9 HB29 HXa HRa HSb HR1a HR2a HFV HFW HSL HCK HFE HLFN HCD HFR HOF HLF
    have hsl9:=HVO.out.2.1
    have hst9:=HVO.out.2.2.2
    go_wp2_with fail
    clear s0
    refine slots_any x HFX HIFF HKT HVO HKL HVS2 HYa HB2a ?_
    intro z4 z63 z64 z65 z66 z67 z68 z69 z70 z71 z72 z73 z74 z75 z76 z77 z78 z79 z80 z81 z82 z83 z84 z85 z86 z87 z88 z89 z90 z91 z92 z93 z94 z95 z96 z97 z98 z99 z100 z101 z102 z103 z104 z105 z106 z107 wo hy hb2r hso
    have HY:=hid hy
    have HB2r:=hid hb2r
    have HSO:=hid hso
    clear hy hb2r hso
    have z2:wo.cell? ⟨bs,2,none⟩=some (.slice a2 T.length c2):=cell_hp HY.out.sb 2
    go_upto_region 15 with fail
    clear z2
    obtain ⟨bw,hbw⟩:∃ b:Bool,(b=true ↔ ¬ awaits x k=none):=⟨decide (¬ awaits x k=none),by simp⟩
    have HBW:=hid hbw
    clear hbw
    have m3:=HY.out.fx.mx.c3
    have m6:=HY.out.fx.mx.c6
    by_cases hlk:k+1=x.frames.length
    ·have hq1:¬ ((k:Int) < (x.frames.length:Int) - 1):=by omega
     by_cases hk0:x.kind=0
     ·have hkb:(x.kind != 0)=false:=by simpa using hk0
      have hb0:bw=false:=Bool.eq_false_iff.2 fun h=>HBW.out.1 h (by unfold awaits;rw [if_pos hlk,if_pos hk0])
      clear hk0
      subst hb0
      go_upto_if 120 with fail
      refine awaitC_any x (KK:=_) HBW HFX HIFF HKT HVO HVT2 HA1 HSO HPR HFN HKD HRF HK HLC HIR HPN HFQ HFIT HL HPT HP HOKS HKP HFO HY HB2r hfl hk hfn2 hpl hil ?_
      assumption
     ·have hkb:(x.kind != 0)=true:=by simpa using hk0
      have hb0:bw=true:=HBW.out.2 fun h=>by unfold awaits at h;rw [if_pos hlk,if_neg hk0] at h;cases h
      clear hk0
      subst hb0
      go_upto_if 120 with fail
      refine awaitC_any x (KK:=_) HBW HFX HIFF HKT HVO HVT2 HA1 HSO HPR HFN HKD HRF HK HLC HIR HPN HFQ HFIT HL HPT HP HOKS HKP HFO HY HB2r hfl hk hfn2 hpl hil ?_
      assumption
    ·have hq1:(k:Int) < (x.frames.length:Int) - 1:=by omega
     have hb0:bw=true:=HBW.out.2 fun h=>by
      unfold awaits at h
      rw [if_neg hlk] at h
      split at h <;> cases h
     clear hlk
     subst hb0
     go_upto_if 120 with fail
     refine awaitC_any x (KK:=_) HBW HFX HIFF HKT HVO HVT2 HA1 HSO HPR HFN HKD HRF HK HLC HIR HPN HFQ HFIT HL HPT HP HOKS HKP HFO HY HB2r hfl hk hfn2 hpl hil ?_
     assumption
   ·have hsb:(sa != 1)=true:=by simpa using hsa
    have HNO:Hid (¬ FrameOk x k):=hid fun h=>hsa (by have h9:=(HIFF.out.1 h).2.1;rw [HPT.out] at h9;have:=HSA.out;omega)
    clear hsa
    go_wp2_with fail
    go_ret
    exact ⟨says_f HNO.out,HXa.out.mx.lo⟩
  ·have HSL:=hid hsl
   have hslb:((f.slots.length:Int) != fn.slots)=true:=by simpa using hsl
   have HNO:Hid (¬ FrameOk x k):=hid fun ⟨A,hL,h1,h2,h3,_⟩=>HSL.out (by
    have h9:=ok10_sh (hL.2.ok _ (show (fr x k).pl.toNat < (fnOf x k).ins.length by omega)) h2
    have h8:=h3.1
    rw [h9.1,HFN.out,HFX.out] at h8
    have:=HFF.out.slots.1
    unfold C.Fn.S at h8
    omega)
   clear hsl
   go_wp2_with (go_at_call 22;refine (in_gr _ _ _ _ (inB_t (by have:=HPR.out;omega))).mono ?_;rintro e w4 ⟨rfl,hb4⟩;have HX4:=hid (HX3.out.next hb4);have HB4:=hid hb4;have o3:w4.cell? ⟨bf,3,none⟩=some (.slice (some ⟨gs,0,none⟩) f.slots.length f.slots.length):=cell_hp HX4.out.fb 3;have q3:w4.cell? ⟨bn,3,none⟩=some (.int .i64 fn.slots):=cell_hp HX4.out.nb 3;clear hb4 o2 q4)
   go_ret
   exact ⟨says_f HNO.out,HX4.out.mx.lo⟩
 ·have HPR:=hid hpr
  have HNO:Hid (¬ FrameOk x k):=hid fun ⟨A,hL,h1,_⟩=>HPR.out (by rw [HFN.out,HFX.out] at h1;exact h1)
  clear hpr
  go_wp2_with (go_at_call 22;refine (in_gr _ _ _ _ (inB_f (by have:=HPR.out;omega))).mono ?_;rintro e w4 ⟨rfl,hb4⟩;have HX4:=hid (HX3.out.next hb4);have HB4:=hid hb4;have o3:w4.cell? ⟨bf,3,none⟩=some (.slice (some ⟨gs,0,none⟩) f.slots.length f.slots.length):=cell_hp HX4.out.fb 3;have q3:w4.cell? ⟨bn,3,none⟩=some (.int .i64 fn.slots):=cell_hp HX4.out.nb 3;clear hb4 o2 q4)
  go_ret
  exact ⟨says_f HNO.out,HX4.out.mx.lo⟩
end Go.Proofs.YtbkmglknbflkhaaGreatDoor.M
namespace Go.Proofs.YtbkmglknbflkhaaGreatDoor.M
open Go.RowKit
open Go.Proofs.YtbkmglknbflkhaaGreatDoor.J (Says says_t says_f)
open Go.Proofs.YtbkmglknbflkhaaGreatDoor.R (hid)
set_option maxRecDepth 20000
theorem says_val {b c:Bool} {P:Prop} (h:b=true ↔ P) (h':c=true ↔ P):b=c:=by rw [Bool.eq_iff_iff];exact h.trans h'.symm
theorem lowT_of {l:List ByteArray} (h:R.wSStr l l.length≤1048576):LowT l:=⟨Nat.le_trans (R.wSStr_ge l _) h,fun i hi=>by have:=R.wSStr_at l hi;omega⟩
theorem mlow_of {x:R.Mc} (h:R.wMc x≤1048576):MLow x:=by
 have h2:=R.loMc_of h
 simp only [R.wMc] at h
 exact ⟨h2,lowT_of (by omega),lowT_of (by omega),lowT_of (by omega),P.lowF_of (by omega),by omega,by omega,by omega⟩
theorem kind_of {x:R.Mc} (h:WtOk x):x.kind=0∨(1≤x.kind∧x.kind≤4):=h.elim (fun h=>.inl h.1) fun h=>.inr h.1
theorem specMc_any (x:R.Mc) {v0 v1 v2 v3 v4 v5:Value} {B:Nat} (w:World) (h:MK B w x v0 v1 v2 v3 v4 v5) (hx:MLow x) (hO:R.OkMc x) :
  Calls Tryz.prog 6 #[mval x v0 v1 v2 v3 v4 v5] w fun e w'=>Says e (MaOk x)∧Below w.heap.size w w' :=
 specValidM_any x w h hx hO.1 fun W hW hw hc=>specFrames_any x W hW hx.lo.2.2.2.1.1 hx.lo.1 hc fun _ V hV hk hall=>specFrame_any x V hV hO.2.2.2.1 hx.lo.2.2.2.1 hx.lo.1 hc (kind_of hw) hk hall
theorem implMc_any (x:R.Mc) {v0 v1 v2 v3 v4 v5:Value} {B:Nat} (w:World) (h:MK B w x v0 v1 v2 v3 v4 v5) (hx:MLow x) (hO:R.OkMc x) (hE:C.EnvI w) :
  Calls Tryz.prog 8 #[mval x v0 v1 v2 v3 v4 v5] w fun e w'=>Says e (MaOk x)∧Below w.heap.size w w' :=
 implValidM_any x w h hx fun W hlo hW hj _=>framesI_any x W hW hO.2.2.2.1 hx.lo.2.2.2.1 hx.lo.1 hO.1 (hE.next hlo) (by have:=some_codes hj;omega)
set_option maxHeartbeats 16000000 in
theorem law_machine (x:R.Mc) {v0 v1 v2 v3 v4 v5:Value} (w:World) (hO:R.OkMc x) (hE:C.EnvI w) (k0:R.SCdA w v0 x.codes) (k1:R.SStrA w v1 x.args) (k2:R.SStrA w v2 x.outs) (k3:R.SFmA w v3 x.frames) (k4:R.SFlA w v4 x.files) (k5:R.SStrA w v5 x.said) :
  Calls Tryz.prog 3 #[.agg #[v0,v1,v2,v3,.int .i64 x.steps,.int .i64 x.looks,.int .i64 x.kind,.string x.name,.string x.hold,.bool x.over,.int .i64 x.fin,.string x.text,v4,v5]] w fun e w'=>e=.returned (.bool true)∧Below w.heap.size w w':=by
 have HO:=hid hO
 have HE:=hid hE
 clear hO hE
 have K0:=hid k0
 obtain ⟨ad0,cp0,rfl⟩:=k0.sl
 have K1:=hid k1
 obtain ⟨ad1,cp1,rfl⟩:=k1.sl
 have K2:=hid k2
 obtain ⟨ad2,cp2,rfl⟩:=k2.sl
 have K3:=hid k3
 obtain ⟨ad3,cp3,rfl⟩:=k3.sl
 have K4:=hid k4
 obtain ⟨ad4,cp4,rfl⟩:=k4.sl
 have K5:=hid k5
 obtain ⟨ad5,cp5,rfl⟩:=k5.sl
 clear k0 k1 k2 k3 k4 k5
 have HX0:=hid (R.B1.start w (.cells #[.slice ad0 x.codes.length cp0,.slice ad1 x.args.length cp1,.slice ad2 x.outs.length cp2,.slice ad3 x.frames.length cp3,.int .i64 x.steps,.int .i64 x.looks,.int .i64 x.kind,.string x.name,.string x.hold,.bool x.over,.int .i64 x.fin,.string x.text,.slice ad4 x.files.length cp4,.slice ad5 x.said.length cp5] 27))
 obtain ⟨w0,hW0⟩:∃ W,w.alloc (.cells #[.slice ad0 x.codes.length cp0,.slice ad1 x.args.length cp1,.slice ad2 x.outs.length cp2,.slice ad3 x.frames.length cp3,.int .i64 x.steps,.int .i64 x.looks,.int .i64 x.kind,.string x.name,.string x.hold,.bool x.over,.int .i64 x.fin,.string x.text,.slice ad4 x.files.length cp4,.slice ad5 x.said.length cp5] 27)=W:=⟨_,rfl⟩
 rw [hW0] at HX0
 have N0:=hid HX0.out.lo
 go_enter Tryz.func3,Tryz.ntmps3
 go_upto_region 2 with fail
 clear hW0
 go_wp2_with (first | (refine wpList_load_row rfl 27 _ rfl (w.heap.size) rfl 27 #[.slice ad0 x.codes.length cp0,.slice ad1 x.args.length cp1,.slice ad2 x.outs.length cp2,.slice ad3 x.frames.length cp3,.int .i64 x.steps,.int .i64 x.looks,.int .i64 x.kind,.string x.name,.string x.hold,.bool x.over,.int .i64 x.fin,.string x.text,.slice ad4 x.files.length cp4,.slice ad5 x.said.length cp5] (0,0) _ HX0.out.e Tryz.underlying27 rfl (by kernel_rfl) ?_))
 refine (R.szMc_any x 1048576 w0 (by omega) (by omega) HO.out (K0.out.next N0.out) (K1.out.next N0.out) (K2.out.next N0.out) (K3.out.next N0.out) (K4.out.next N0.out) (K5.out.next N0.out)).mono ?_
 rintro e w1 ⟨⟨r,rfl,_,_,h3⟩,hb⟩
 have HX1:=hid (HX0.out.next hb)
 have N1:=hid (N0.out.trans (hb.mono N0.out.size))
 have H3:=hid h3
 clear hb h3
 by_cases hr:r < 0
 ·go_wp2
  go_ret
  exact ⟨rfl,HX1.out.lo⟩
 have HWT:Hid (R.wMc x≤1048576):=by
  have h9:=H3.out (by omega)
  show _≤_
  omega
 have HLO:=hid (R.loMc_of HWT.out)
 have HSM:=hid (mlow_of HWT.out)
 clear H3
 go_wp2_with (first | (refine wpList_load_row rfl 27 _ rfl (w.heap.size) rfl 27 #[.slice ad0 x.codes.length cp0,.slice ad1 x.args.length cp1,.slice ad2 x.outs.length cp2,.slice ad3 x.frames.length cp3,.int .i64 x.steps,.int .i64 x.looks,.int .i64 x.kind,.string x.name,.string x.hold,.bool x.over,.int .i64 x.fin,.string x.text,.slice ad4 x.files.length cp4,.slice ad5 x.said.length cp5] (0,0) _ HX1.out.e Tryz.underlying27 rfl (by kernel_rfl) ?_))
 refine (R.toMc_any x w1 HLO.out (K0.out.next N1.out) (K1.out.next N1.out) (K2.out.next N1.out) (K3.out.next N1.out) (K4.out.next N1.out) (K5.out.next N1.out)).mono ?_
 rintro e w2 ⟨u0,u1,u2,u3,u4,u5,rfl,r0,r1,r2,r3,r4,r5,hb⟩
 have R20:=hid (r0.mono (B':=0) (Nat.zero_le _))
 obtain ⟨g20,rfl⟩:=r0.sl
 clear r0
 have R21:=hid (r1.mono (B':=0) (Nat.zero_le _))
 obtain ⟨g21,rfl⟩:=r1.sl
 clear r1
 have R22:=hid (r2.mono (B':=0) (Nat.zero_le _))
 obtain ⟨g22,rfl⟩:=r2.sl
 clear r2
 have R23:=hid (r3.mono (B':=0) (Nat.zero_le _))
 obtain ⟨g23,rfl⟩:=r3.sl
 clear r3
 have R24:=hid (r4.mono (B':=0) (Nat.zero_le _))
 obtain ⟨g24,rfl⟩:=r4.sl
 clear r4
 have R25:=hid (r5.mono (B':=0) (Nat.zero_le _))
 obtain ⟨g25,rfl⟩:=r5.sl
 clear r5
 have HX2:=hid (HX1.out.next hb)
 have N2:=hid (N1.out.trans (hb.mono N1.out.size))
 clear hb
 go_wp2_with fail
 refine (specMc_any x w2 ⟨R20.out,R21.out,R22.out,R23.out,R24.out,R25.out⟩ HSM.out HO.out).mono ?_
 rintro e w3 ⟨⟨b3,rfl,hv3⟩,hb⟩
 have HX3:=hid (HX2.out.next hb)
 have N3:=hid (N2.out.trans (hb.mono N2.out.size))
 have HV3:=hid hv3
 clear hb hv3
 go_wp2_with (first | (refine wpList_load_row rfl 27 _ rfl (w.heap.size) rfl 27 #[.slice ad0 x.codes.length cp0,.slice ad1 x.args.length cp1,.slice ad2 x.outs.length cp2,.slice ad3 x.frames.length cp3,.int .i64 x.steps,.int .i64 x.looks,.int .i64 x.kind,.string x.name,.string x.hold,.bool x.over,.int .i64 x.fin,.string x.text,.slice ad4 x.files.length cp4,.slice ad5 x.said.length cp5] (0,0) _ HX3.out.e Tryz.underlying27 rfl (by kernel_rfl) ?_))
 refine (R.toMc_any x w3 HLO.out (K0.out.next N3.out) (K1.out.next N3.out) (K2.out.next N3.out) (K3.out.next N3.out) (K4.out.next N3.out) (K5.out.next N3.out)).mono ?_
 rintro e w4 ⟨u0,u1,u2,u3,u4,u5,rfl,r0,r1,r2,r3,r4,r5,hb⟩
 have R40:=hid (r0.mono (B':=0) (Nat.zero_le _))
 obtain ⟨g40,rfl⟩:=r0.sl
 clear r0
 have R41:=hid (r1.mono (B':=0) (Nat.zero_le _))
 obtain ⟨g41,rfl⟩:=r1.sl
 clear r1
 have R42:=hid (r2.mono (B':=0) (Nat.zero_le _))
 obtain ⟨g42,rfl⟩:=r2.sl
 clear r2
 have R43:=hid (r3.mono (B':=0) (Nat.zero_le _))
 obtain ⟨g43,rfl⟩:=r3.sl
 clear r3
 have R44:=hid (r4.mono (B':=0) (Nat.zero_le _))
 obtain ⟨g44,rfl⟩:=r4.sl
 clear r4
 have R45:=hid (r5.mono (B':=0) (Nat.zero_le _))
 obtain ⟨g45,rfl⟩:=r5.sl
 clear r5
 have HX4:=hid (HX3.out.next hb)
 have N4:=hid (N3.out.trans (hb.mono N3.out.size))
 clear hb
 have HZ:=hid (R.B1.start w4 (.cells #[.slice none 0 0,.slice none 0 0,.slice none 0 0,.slice none 0 0,.int .i64 0,.int .i64 0,.int .i64 0,.string ⟨#[]⟩,.string ⟨#[]⟩,.bool false,.int .i64 0,.string ⟨#[]⟩,.slice none 0 0,.slice none 0 0] 34))
 have HSR:=hid (setRow_heap (w4.alloc (.cells #[.slice none 0 0,.slice none 0 0,.slice none 0 0,.slice none 0 0,.int .i64 0,.int .i64 0,.int .i64 0,.string ⟨#[]⟩,.string ⟨#[]⟩,.bool false,.int .i64 0,.string ⟨#[]⟩,.slice none 0 0,.slice none 0 0] 34)) w4.heap.size _ #[.slice (some ⟨g40,0,none⟩) x.codes.length x.codes.length,.slice (some ⟨g41,0,none⟩) x.args.length x.args.length,.slice (some ⟨g42,0,none⟩) x.outs.length x.outs.length,.slice (some ⟨g43,0,none⟩) x.frames.length x.frames.length,.int .i64 x.steps,.int .i64 x.looks,.int .i64 x.kind,.string x.name,.string x.hold,.bool x.over,.int .i64 x.fin,.string x.text,.slice (some ⟨g44,0,none⟩) x.files.length x.files.length,.slice (some ⟨g45,0,none⟩) x.said.length x.said.length] _ _ HZ.out.e)
 have HBL:Hid (Below w4.heap.size w4 ((w4.alloc (.cells #[.slice none 0 0,.slice none 0 0,.slice none 0 0,.slice none 0 0,.int .i64 0,.int .i64 0,.int .i64 0,.string ⟨#[]⟩,.string ⟨#[]⟩,.bool false,.int .i64 0,.string ⟨#[]⟩,.slice none 0 0,.slice none 0 0] 34)).setRow w4.heap.size #[.slice (some ⟨g40,0,none⟩) x.codes.length x.codes.length,.slice (some ⟨g41,0,none⟩) x.args.length x.args.length,.slice (some ⟨g42,0,none⟩) x.outs.length x.outs.length,.slice (some ⟨g43,0,none⟩) x.frames.length x.frames.length,.int .i64 x.steps,.int .i64 x.looks,.int .i64 x.kind,.string x.name,.string x.hold,.bool x.over,.int .i64 x.fin,.string x.text,.slice (some ⟨g44,0,none⟩) x.files.length x.files.length,.slice (some ⟨g45,0,none⟩) x.said.length x.said.length])):=hid (below_setRow HZ.out.lo (Nat.le_refl _) _)
 go_upto_region 7 with (first | (refine wpList_store_row rfl 34 _ _ rfl w4.heap.size #[.slice (some ⟨g40,0,none⟩) x.codes.length x.codes.length,.slice (some ⟨g41,0,none⟩) x.args.length x.args.length,.slice (some ⟨g42,0,none⟩) x.outs.length x.outs.length,.slice (some ⟨g43,0,none⟩) x.frames.length x.frames.length,.int .i64 x.steps,.int .i64 x.looks,.int .i64 x.kind,.string x.name,.string x.hold,.bool x.over,.int .i64 x.fin,.string x.text,.slice (some ⟨g44,0,none⟩) x.files.length x.files.length,.slice (some ⟨g45,0,none⟩) x.said.length x.said.length] rfl rfl 34 _ HZ.out.e (by kernel_rfl) rfl (by simp [Value.oneCell']) ?_))
 obtain ⟨w5,hW5⟩:∃ W,(w4.alloc (.cells #[.slice none 0 0,.slice none 0 0,.slice none 0 0,.slice none 0 0,.int .i64 0,.int .i64 0,.int .i64 0,.string ⟨#[]⟩,.string ⟨#[]⟩,.bool false,.int .i64 0,.string ⟨#[]⟩,.slice none 0 0,.slice none 0 0] 34)).setRow w4.heap.size #[.slice (some ⟨g40,0,none⟩) x.codes.length x.codes.length,.slice (some ⟨g41,0,none⟩) x.args.length x.args.length,.slice (some ⟨g42,0,none⟩) x.outs.length x.outs.length,.slice (some ⟨g43,0,none⟩) x.frames.length x.frames.length,.int .i64 x.steps,.int .i64 x.looks,.int .i64 x.kind,.string x.name,.string x.hold,.bool x.over,.int .i64 x.fin,.string x.text,.slice (some ⟨g44,0,none⟩) x.files.length x.files.length,.slice (some ⟨g45,0,none⟩) x.said.length x.said.length]=W:=⟨_,rfl⟩
 rw [hW5] at HSR HBL ⊢
 have HX5:=hid (HX4.out.next HBL.out)
 have N5:=hid (N4.out.trans (HBL.out.mono N4.out.size))
 have R50:=hid (R40.out.next HBL.out)
 have R51:=hid (R41.out.next HBL.out)
 have R52:=hid (R42.out.next HBL.out)
 have R53:=hid (R43.out.next HBL.out)
 have R54:=hid (R44.out.next HBL.out)
 have R55:=hid (R45.out.next HBL.out)
 clear hW5 HZ HBL
 go_wp2_with (first | (refine wpList_load_row rfl 34 _ rfl (w4.heap.size) rfl 34 #[.slice (some ⟨g40,0,none⟩) x.codes.length x.codes.length,.slice (some ⟨g41,0,none⟩) x.args.length x.args.length,.slice (some ⟨g42,0,none⟩) x.outs.length x.outs.length,.slice (some ⟨g43,0,none⟩) x.frames.length x.frames.length,.int .i64 x.steps,.int .i64 x.looks,.int .i64 x.kind,.string x.name,.string x.hold,.bool x.over,.int .i64 x.fin,.string x.text,.slice (some ⟨g44,0,none⟩) x.files.length x.files.length,.slice (some ⟨g45,0,none⟩) x.said.length x.said.length] (0,0) _ HSR.out Tryz.underlying34 rfl (by kernel_rfl) ?_))
 refine (implMc_any x w5 ⟨R50.out,R51.out,R52.out,R53.out,R54.out,R55.out⟩ HSM.out HO.out (HE.out.next N5.out)).mono ?_
 rintro e w6 ⟨⟨b6,rfl,hv6⟩,hb⟩
 obtain rfl:=says_val hv6 HV3.out
 have HX6:=hid (HX5.out.next hb)
 have N6:=hid (N5.out.trans (hb.mono N5.out.size))
 have HG6:=hid (C.hp_next HSR.out hb)
 have R60:=hid (R50.out.next hb)
 have R61:=hid (R51.out.next hb)
 have R62:=hid (R52.out.next hb)
 have R63:=hid (R53.out.next hb)
 have R64:=hid (R54.out.next hb)
 have R65:=hid (R55.out.next hb)
 clear hb hv6 HSR HX5 N5 R50 R51 R52 R53 R54 R55 HV3
 have h0:(b6 != b6)=false:=by simp
 go_upto_region 10 with fail
 have HS6:Hid (∀ W,Below w6.heap.size w6 W→W.heap[w.heap.size]?=some (.cells #[.slice ad0 x.codes.length cp0,.slice ad1 x.args.length cp1,.slice ad2 x.outs.length cp2,.slice ad3 x.frames.length cp3,.int .i64 x.steps,.int .i64 x.looks,.int .i64 x.kind,.string x.name,.string x.hold,.bool x.over,.int .i64 x.fin,.string x.text,.slice ad4 x.files.length cp4,.slice ad5 x.said.length cp5] 27 (0,0))∧W.heap[w4.heap.size]?=some (.cells #[.slice (some ⟨g40,0,none⟩) x.codes.length x.codes.length,.slice (some ⟨g41,0,none⟩) x.args.length x.args.length,.slice (some ⟨g42,0,none⟩) x.outs.length x.outs.length,.slice (some ⟨g43,0,none⟩) x.frames.length x.frames.length,.int .i64 x.steps,.int .i64 x.looks,.int .i64 x.kind,.string x.name,.string x.hold,.bool x.over,.int .i64 x.fin,.string x.text,.slice (some ⟨g44,0,none⟩) x.files.length x.files.length,.slice (some ⟨g45,0,none⟩) x.said.length x.said.length] 34 (0,0))):=hid fun W h=>⟨(HX6.out.next h).e,C.hp_next HG6.out h⟩
 refine wp_region_held_drew (S:=fun W=>W.heap[w.heap.size]?=some (.cells #[.slice ad0 x.codes.length cp0,.slice ad1 x.args.length cp1,.slice ad2 x.outs.length cp2,.slice ad3 x.frames.length cp3,.int .i64 x.steps,.int .i64 x.looks,.int .i64 x.kind,.string x.name,.string x.hold,.bool x.over,.int .i64 x.fin,.string x.text,.slice ad4 x.files.length cp4,.slice ad5 x.said.length cp5] 27 (0,0))∧W.heap[w4.heap.size]?=some (.cells #[.slice (some ⟨g40,0,none⟩) x.codes.length x.codes.length,.slice (some ⟨g41,0,none⟩) x.args.length x.args.length,.slice (some ⟨g42,0,none⟩) x.outs.length x.outs.length,.slice (some ⟨g43,0,none⟩) x.frames.length x.frames.length,.int .i64 x.steps,.int .i64 x.looks,.int .i64 x.kind,.string x.name,.string x.hold,.bool x.over,.int .i64 x.fin,.string x.text,.slice (some ⟨g44,0,none⟩) x.files.length x.files.length,.slice (some ⟨g45,0,none⟩) x.said.length x.said.length] 34 (0,0))) (by kernel_rfl) (HS6.out _ (Below.refl _ _).drew) (fun hHeld=>?_)
 refine wpAnyH_take (i:=0) (v:=.agg #[.slice (some ⟨g40,0,none⟩) x.codes.length x.codes.length,.slice (some ⟨g41,0,none⟩) x.args.length x.args.length,.slice (some ⟨g42,0,none⟩) x.outs.length x.outs.length,.slice (some ⟨g43,0,none⟩) x.frames.length x.frames.length,.int .i64 x.steps,.int .i64 x.looks,.int .i64 x.kind,.string x.name,.string x.hold,.bool x.over,.int .i64 x.fin,.string x.text,.slice (some ⟨g44,0,none⟩) x.files.length x.files.length,.slice (some ⟨g45,0,none⟩) x.said.length x.said.length]) rfl (by kernel_rfl) (by kernel_rfl) (by kernel_rfl) (fun _ _ _ h=>h) (yieldsIf_load_mid (by rfl) 34 _ rfl (w4.heap.size) 0 rfl [.slice (some ⟨g40,0,none⟩) x.codes.length x.codes.length,.slice (some ⟨g41,0,none⟩) x.args.length x.args.length,.slice (some ⟨g42,0,none⟩) x.outs.length x.outs.length,.slice (some ⟨g43,0,none⟩) x.frames.length x.frames.length,.int .i64 x.steps,.int .i64 x.looks,.int .i64 x.kind,.string x.name,.string x.hold,.bool x.over,.int .i64 x.fin,.string x.text,.slice (some ⟨g44,0,none⟩) x.files.length x.files.length,.slice (some ⟨g45,0,none⟩) x.said.length x.said.length] _ (fun W h=>range_mid [] _ [] h.2 rfl) Tryz.underlying34 rfl (by kernel_rfl)) (hHeld) ?_
 simp only [Act.put,List.setIfInBounds_toArray]
 refine wpAnyH_take (i:=1) (v:=.agg #[.slice ad0 x.codes.length cp0,.slice ad1 x.args.length cp1,.slice ad2 x.outs.length cp2,.slice ad3 x.frames.length cp3,.int .i64 x.steps,.int .i64 x.looks,.int .i64 x.kind,.string x.name,.string x.hold,.bool x.over,.int .i64 x.fin,.string x.text,.slice ad4 x.files.length cp4,.slice ad5 x.said.length cp5]) rfl (by kernel_rfl) (by kernel_rfl) (by kernel_rfl) (fun _ _ _ h=>h) (yieldsIf_load_mid (by rfl) 27 _ rfl (w.heap.size) 0 rfl [.slice ad0 x.codes.length cp0,.slice ad1 x.args.length cp1,.slice ad2 x.outs.length cp2,.slice ad3 x.frames.length cp3,.int .i64 x.steps,.int .i64 x.looks,.int .i64 x.kind,.string x.name,.string x.hold,.bool x.over,.int .i64 x.fin,.string x.text,.slice ad4 x.files.length cp4,.slice ad5 x.said.length cp5] _ (fun W h=>range_mid [] _ [] h.1 rfl) Tryz.underlying27 rfl (by kernel_rfl)) (hHeld) ?_
 simp only [Act.put]
 refine held_call (i:=2) (by kernel_rfl) rfl rfl (by kernel_rfl) (R.toMc_any x _ HLO.out (K0.out.next N6.out.drew) (K1.out.next N6.out.drew) (K2.out.next N6.out.drew) (K3.out.next N6.out.drew) (K4.out.next N6.out.drew) (K5.out.next N6.out.drew)) ?_
 rintro e w7 ⟨u0,u1,u2,u3,u4,u5,rfl,r0,r1,r2,r3,r4,r5,hb⟩
 have HC7:=hid ((Below.refl w6.heap.size w6).drew.trans hb)
 have R70:=hid (r0.mono (B':=0) (Nat.zero_le _))
 obtain ⟨g70,rfl⟩:=r0.sl
 clear r0
 have R71:=hid (r1.mono (B':=0) (Nat.zero_le _))
 obtain ⟨g71,rfl⟩:=r1.sl
 clear r1
 have R72:=hid (r2.mono (B':=0) (Nat.zero_le _))
 obtain ⟨g72,rfl⟩:=r2.sl
 clear r2
 have R73:=hid (r3.mono (B':=0) (Nat.zero_le _))
 obtain ⟨g73,rfl⟩:=r3.sl
 clear r3
 have R74:=hid (r4.mono (B':=0) (Nat.zero_le _))
 obtain ⟨g74,rfl⟩:=r4.sl
 clear r4
 have R75:=hid (r5.mono (B':=0) (Nat.zero_le _))
 obtain ⟨g75,rfl⟩:=r5.sl
 clear r5
 clear hb
 refine ⟨_,rfl,HS6.out _ HC7.out,?_⟩
 simp only [Act.put]
 refine held_call (i:=3) (by kernel_rfl) rfl rfl (by kernel_rfl) (R.eqMc_same x _ HLO.out (R60.out.next HC7.out) R70.out (R61.out.next HC7.out) R71.out (R62.out.next HC7.out) R72.out (R63.out.next HC7.out) R73.out (R64.out.next HC7.out) R74.out (R65.out.next HC7.out) R75.out) ?_
 rintro e w8 ⟨rfl,hb⟩
 have HC8:=hid (HC7.out.trans (hb.mono HC7.out.size))
 clear hb
 refine ⟨_,rfl,HS6.out _ HC8.out,?_⟩
 simp only [Act.put]
 refine wpAnyH_take (i:=4) (v:=.bool false) rfl (by kernel_rfl) (by kernel_rfl) (by kernel_rfl) (fun _ _ _ h=>h) (Or.inl ⟨by rfl,fun W _=>by kernel_rfl⟩) (HS6.out _ HC8.out) ?_
 simp only [Act.put]
 refine wpAnyH_done (by kernel_rfl) ?_ _
 go_wp2
 go_ret
 exact ⟨rfl,(HX6.out.next HC8.out).lo⟩
end Go.Proofs.YtbkmglknbflkhaaGreatDoor.M
namespace Go.Proofs.YtbkmglknbflkhaaGreatDoor.C
open Go.ChangeShapes Go.WideShapes Go.ChangeAt Go.RowKit
set_option maxRecDepth 20000
theorem own:ownKnob Tryz.prog.godebug=none:=by kernel_rfl
theorem laidOut:laidOutB Tryz.prog=true:=by kernel_rfl
theorem read_code:Tryz.prog.readableRec 27=true:=by kernel_rfl
theorem code_open {H:Type} {enc:TypeId × Value→H} {W:World} {base:Nat} {v:Value} {d:DataW H} {ps:List MemPlace} (hv:Value.okWide Tryz.prog W .any base 27 v) (h:DataW.Trod enc Tryz.prog W 0 (fun _=>true) true 27 v d ps) :
  ∃ (x:R.Mc) (c0 c1 c2 c3 c4 c5:Value),v=.agg #[c0,c1,c2,c3,.int .i64 x.steps,.int .i64 x.looks,.int .i64 x.kind,.string x.name,.string x.hold,.bool x.over,.int .i64 x.fin,.string x.text,c4,c5]∧R.SCdA W c0 x.codes∧R.SStrA W c1 x.args∧R.SStrA W c2 x.outs∧R.SFmA W c3 x.frames∧R.SFlA W c4 x.files∧R.SStrA W c5 x.said∧R.OkMc x:=by
 obtain ⟨cs,rfl,hsz⟩:=okWide_struct Tryz.underlying27 hv
 obtain ⟨fuel,hf⟩:=h
 obtain ⟨x,c0,c1,c2,c3,c4,c5,e,r⟩:=R.Mc_open hf
 have e2:cs.toList=[c0,c1,c2,c3,.int .i64 x.steps,.int .i64 x.looks,.int .i64 x.kind,.string x.name,.string x.hold,.bool x.over,.int .i64 x.fin,.string x.text,c4,c5]:=by simpa [Value.cells] using e
 obtain rfl:cs=#[c0,c1,c2,c3,.int .i64 x.steps,.int .i64 x.looks,.int .i64 x.kind,.string x.name,.string x.hold,.bool x.over,.int .i64 x.fin,.string x.text,c4,c5]:=Array.ext' e2
 exact ⟨x,c0,c1,c2,c3,c4,c5,rfl,r⟩
def putCells (cs:Array Value):Obj→Obj
 | .cells _ t frozen=>.cells cs t frozen
 | o=>o
def startIn:Input:=⟨#[.cells #[.int .i64 2] 3,.cells #[.int .i64 2] 3,.cells #[.int .i64 2] 3,.cells #[.int .i64 2,.int .i64 2] 3,.cells #[.int .i64 2] 3,.cells #[.int .i64 2,.int .i64 10] 3,.cells #[.int .i64 2,.int .i64 10,.int .i64 10] 3,.cells #[.int .i64 2,.int .i64 2] 3,.cells #[.int .i64 3] 3,.cells #[.int .i64 (-1)] 3,.cells #[.int .i64 2] 3,.cells #[.int .i64 (-2)] 3,.cells #[.int .i64 (-2)] 3,.cells #[.int .i64 (-2)] 3,.cells #[.int .i64 (-2),.int .i64 (-2)] 3,.cells #[.int .i64 (-1)] 3,.cells #[.int .i64 1] 3,.cells #[.int .i64 2] 3,.cells #[.int .i64 2,.int .i64 2] 3,.cells #[.int .i64 2] 3],#[],[]⟩
theorem trodVars_len {H:Type} {enc:TypeId × Value→H} {P:Program} {w:World} {spare:Nat→Bool}:∀ (ns:List String) (gs:List (DataW H)) (ps:List MemPlace),DataW.TrodVars enc P w spare ns gs ps→gs.length=ns.length:=by
 intro ns
 induction ns with
 | nil=>intro gs ps h;obtain ⟨rfl,_⟩:=trodVars_none h;rfl
 | cons n ns ih =>
  intro gs ps h
  cases gs with
  | nil=>simp [DataW.TrodVars] at h
  | cons d ds =>
   obtain ⟨g,t,cs,fuel,p,q,h1,h2,h3,h4,hs,e⟩:=h
   simp [ih ds q hs]
theorem varsOk:varsRowed Tryz.prog Rows.fnExactMillValidMachineSpec.vars=true:=by kernel_rfl
set_option maxHeartbeats 2000000 in
set_option maxRecDepth 100000 in
theorem contract (H:Type) (enc:TypeId × Value→H) (W:World) (base:Nat) (args:Array Value) (ds gs:List (DataW H)) (before:List MemPlace)
  (hval:∀ (j:Nat) t v,Tryz.f3.params[j]?=some t→args[j]?=some v→Value.okWide Tryz.prog W .any base t v)
  (hW:DataW.Whole enc Tryz.prog Tryz.f3.params.toList Rows.fnExactMillValidMachineSpec.vars false W args.toList ds gs before) (hL:laidMetH Tryz.prog Rows.fnExactMillValidMachineRow.laid W) :
  Calls Tryz.prog 3 args W fun e W'=>∃ v,e=.returned v∧Rows.fnExactMillValidMachineSpec.post enc Tryz.prog Tryz.f3 false true false false W args v W':=by
 have hW':=hW
 obtain ⟨p,q,hA0,hV,rfl,hfz,hnd⟩:=hW
 have hA:DataW.TrodAll enc Tryz.prog W 0 (fun _=>true) true Tryz.f3.params.toList args.toList ds p:=hA0
 rw [Tryz.params3] at hA hval
 obtain ⟨v0,vs0,d0,ds0,p0,q0,hargs,rfl,rfl,h0,r0⟩:=trodAll_cons hA
 obtain ⟨rfl,rfl,rfl⟩:=trodAll_nil r0
 obtain rfl:args=#[v0]:=by cases args;simp_all
 obtain ⟨x,c0,c1,c2,c3,c4,c5,rfl,k0,k1,k2,k3,k4,k5,hO⟩:=code_open (hval 0 27 v0 rfl rfl) h0
 have hlt0:∀ x ∈ p0,x.block < W.heap.size:=fun x hx=>DataW.TrodAll.lt hA x (by simp [hx])
 clear hA0
 obtain ⟨g1,g2,hg1⟩:∃ g1 g2,gs=[g1,g2]:=by
  have:=trodVars_len _ _ _ hV
  match gs,this with
  | [g1,g2],_=>exact ⟨g1,g2,rfl⟩
 subst hg1
 simp only [List.append_nil] at hW'
 have hL2 : laidMet Tryz.prog [("loop.example/kilnyard/impl.millBuiltSigns", Rows.laid_loop_example_kilnyard_impl_millBuiltSigns), ("loop.example/kilnyard/impl.millInsRows", Rows.laid_loop_example_kilnyard_impl_millInsRows)] W := hL
 refine (M.law_machine x W hO (envI_of hL2 hL2.tail) k0 k1 k2 k3 k4 k5).mono fun e W' ⟨he,hnx⟩=>?_
 subst he
 refine ⟨_,rfl,_,_,_,[],p0,q,hW',?_,?_,?_,hnx.frame _,fun h=>by cases h⟩
 ·exact trodAll_mk1 (shut_bool Tryz.underlying4 _)
 ·exact trodAll_mk1 (hnx.trod laidOut read_code (of_decide_eq_true (by kernel_rfl)) h0 hlt0)
 ·exact hnx.trodVars laidOut varsOk hV
noncomputable abbrev bas0:Nat:=(World.holding Tryz.prog default ⟨#[],#[],[]⟩).heap.size
noncomputable abbrev wit0 (os:Os):World:={ World.holding Tryz.prog os startIn with heap:=(((World.holding Tryz.prog os startIn).heap.modify 1 (putCells #[.slice none 0 0,.int .i64 0,.slice (some ⟨bas0+0,0,none⟩) 1 1,.int .i64 2,.slice (some ⟨bas0+1,0,none⟩) 1 1,.int .i64 1,.slice (some ⟨bas0+2,0,none⟩) 1 1,.int .i64 2,.slice (some ⟨bas0+3,0,none⟩) 2 2,.int .i64 2,.slice none 0 0,.int .i64 2,.slice (some ⟨bas0+4,0,none⟩) 1 1,.int .i64 10,.slice (some ⟨bas0+5,0,none⟩) 2 2,.int .i64 3,.slice (some ⟨bas0+6,0,none⟩) 3 3,.int .i64 2,.slice (some ⟨bas0+7,0,none⟩) 2 2,.int .i64 10,.slice (some ⟨bas0+8,0,none⟩) 1 1,.int .i64 2,.slice (some ⟨bas0+9,0,none⟩) 1 1,.int .i64 2,.slice (some ⟨bas0+10,0,none⟩) 1 1,.int .i64 10])).modify 0 (putCells #[.int .i64 0,.slice none 0 0,.int .i64 0,.int .i64 1,.slice none 0 0,.int .i64 1,.int .i64 2,.slice none 0 0,.int .i64 2,.int .i64 2,.slice (some ⟨bas0+11,0,none⟩) 1 1,.int .i64 0,.int .i64 0,.slice (some ⟨bas0+12,0,none⟩) 1 1,.int .i64 0,.int .i64 3,.slice (some ⟨bas0+13,0,none⟩) 1 1,.int .i64 3,.int .i64 4,.slice (some ⟨bas0+14,0,none⟩) 2 2,.int .i64 4,.int .i64 5,.slice (some ⟨bas0+15,0,none⟩) 1 1,.int .i64 1,.int .i64 6,.slice none 0 0,.int .i64 5,.int .i64 7,.slice none 0 0,.int .i64 6,.int .i64 8,.slice none 0 0,.int .i64 0,.int .i64 8,.slice (some ⟨bas0+16,0,none⟩) 1 1,.int .i64 0,.int .i64 9,.slice none 0 0,.int .i64 0,.int .i64 0,.slice (some ⟨bas0+17,0,none⟩) 1 1,.int .i64 0,.int .i64 0,.slice (some ⟨bas0+18,0,none⟩) 2 2,.int .i64 0,.int .i64 0,.slice (some ⟨bas0+19,0,none⟩) 1 1,.int .i64 0,.int .i64 0,.slice none 0 0,.int .i64 0])) }
theorem laid_met (os:Os):laidMet Tryz.prog Rows.fnExactMillValidMachineRow.laid ((wit0 os:World).forCall (fun _ _=>0) ⟨#[],#[.agg #[.slice none 0 0,.slice none 0 0,.slice none 0 0,.slice none 0 0,.int .i64 0,.int .i64 0,.int .i64 0,.string ⟨#[]⟩,.string ⟨#[]⟩,.bool false,.int .i64 0,.string ⟨#[]⟩,.slice none 0 0,.slice none 0 0]],[]⟩).memory :=
 laidMet_of_run' 8 (by kernel_rfl) (by kernel_rfl)
theorem reads (os:Os) {H:Type} (enc:TypeId × Value→H):∃ gs places,DataW.whole enc Tryz.prog ((wit0 os:World).forCall (fun _ _=>0) ⟨#[],#[.agg #[.slice none 0 0,.slice none 0 0,.slice none 0 0,.slice none 0 0,.int .i64 0,.int .i64 0,.int .i64 0,.string ⟨#[]⟩,.string ⟨#[]⟩,.bool false,.int .i64 0,.string ⟨#[]⟩,.slice none 0 0,.slice none 0 0]],[]⟩).memory Tryz.f3.params.toList Rows.fnExactMillValidMachineSpec.vars false #[Value.agg #[.slice none 0 0,.slice none 0 0,.slice none 0 0,.slice none 0 0,.int .i64 0,.int .i64 0,.int .i64 0,.string ⟨#[]⟩,.string ⟨#[]⟩,.bool false,.int .i64 0,.string ⟨#[]⟩,.slice none 0 0,.slice none 0 0]].toList 8=some ([.agg [.nil,.nil,.nil,.nil,.lit (.int .i64 0),.lit (.int .i64 0),.lit (.int .i64 0),.lit (.string []),.lit (.string []),.lit (.bool false),.lit (.int .i64 0),.lit (.string []),.nil,.nil]],gs,places):=by
 have h:(DataW.whole enc Tryz.prog ((wit0 os:World).forCall (fun _ _=>0) ⟨#[],#[.agg #[.slice none 0 0,.slice none 0 0,.slice none 0 0,.slice none 0 0,.int .i64 0,.int .i64 0,.int .i64 0,.string ⟨#[]⟩,.string ⟨#[]⟩,.bool false,.int .i64 0,.string ⟨#[]⟩,.slice none 0 0,.slice none 0 0]],[]⟩).memory Tryz.f3.params.toList Rows.fnExactMillValidMachineSpec.vars false #[Value.agg #[.slice none 0 0,.slice none 0 0,.slice none 0 0,.slice none 0 0,.int .i64 0,.int .i64 0,.int .i64 0,.string ⟨#[]⟩,.string ⟨#[]⟩,.bool false,.int .i64 0,.string ⟨#[]⟩,.slice none 0 0,.slice none 0 0]].toList 8).map (·.1)=some [.agg [.nil,.nil,.nil,.nil,.lit (.int .i64 0),.lit (.int .i64 0),.lit (.int .i64 0),.lit (.string []),.lit (.string []),.lit (.bool false),.lit (.int .i64 0),.lit (.string []),.nil,.nil]]:=by kernel_rfl
 obtain ⟨⟨x,gs,places⟩,hx,rfl⟩:=Option.map_eq_some_iff.1 h
 exact ⟨gs,places,hx⟩
set_option maxRecDepth 100000 in
theorem lifted (os:Os) (started:os.Started) (H:Type) (enc:TypeId × Value→H) (F:Stop.Interp) :
  ReturnsInHanded {} Tryz.checked os 3 .any ((OpenSpec.ofChange Rows.fnExactMillValidMachineSpec).preRow enc Tryz.prog Tryz.f3 Rows.fnExactMillValidMachineRow.domain false Rows.fnExactMillValidMachineRow.laid) (((OpenSpec.ofChange Rows.fnExactMillValidMachineSpec).at F).post enc Tryz.prog Tryz.f3 false true false false):=by
 obtain ⟨gs,places,hx⟩:=reads os enc
 refine returnsInHanded_of_row (C:=Tryz.checked) (s:=OpenSpec.ofChange Rows.fnExactMillValidMachineSpec) own started (by kernel_rfl) Tryz.func3
  (witness_row_atRef (enc:=enc) (C:=Tryz.checked) false (wit0 os:World) #[.agg #[.slice none 0 0,.slice none 0 0,.slice none 0 0,.slice none 0 0,.int .i64 0,.int .i64 0,.int .i64 0,.string ⟨#[]⟩,.string ⟨#[]⟩,.bool false,.int .i64 0,.string ⟨#[]⟩,.slice none 0 0,.slice none 0 0]] rfl (by kernel_rfl) (by kernel_rfl) (by kernel_rfl)
   (OpenSpec.preRow_of_cond 8 hx (by kernel_rfl) (fun k hk=>by cases hk) (by kernel_rfl) (laid_met os))) ?_
 intro W base args ds gs before hval hW _ _ _ hL _ _
 exact contract H enc W base args ds gs before hval hW hL
theorem said:Rows.FnExactMillValidMachineSaid :=
 OpenClaim.holds_of_cond 3 Tryz.f3 rfl rfl rfl rfl rfl rfl rfl ⟨rfl,rfl,rfl,rfl,rfl⟩ rfl rfl rfl rfl rfl (by kernel_rfl) Tryz.func3 (by kernel_rfl)
  (of_decide_eq_true (by kernel_rfl)) (by unfold Func.isWrapper;first | (rw [if_pos (by decide +kernel)];kernel_rfl) | (rw [if_neg (by decide +kernel)];exact ⟨rfl,rfl⟩))
  (fun os started H enc _ F=>by rw [OpenClaim.pre_eq_preRow];exact lifted os started H enc F)
theorem plain (f : FuncId) (fn : Func) (hf : Tryz.pinned.checked.prog.funcNamed "loop.example/kilnyard/laws.FnExactMillValidMachine" = some f) (hfn : Tryz.pinned.checked.prog.funcs[f]? = some fn) :
  false=Tryz.pinned.checked.prog.looks []∧∀ (j:Nat) t,fn.params[j]?=some t→Tryz.pinned.checked.prog.wantsStandIn t=false:=by
 obtain rfl : f = 3 := Option.some.inj ((show Tryz.prog.funcNamed "loop.example/kilnyard/laws.FnExactMillValidMachine" = some 3 by kernel_rfl).symm.trans hf) |>.symm
 obtain rfl:fn=Tryz.f3:=(Option.some.inj (Tryz.func3.symm.trans hfn)).symm
 refine ⟨by kernel_rfl,fun j t ht=>?_⟩
 rw [Tryz.params3] at ht
 obtain rfl:t=27:=by simpa using Array.mem_of_getElem? ht
 exact (show Tryz.prog.wantsStandIn 27=false by kernel_rfl)
theorem card:Rows.FnExactMillValidMachineCardSaid :=
 Claim7.holds_tied_plain_at .later [] _ _ _ _ said (fun _ h=>by cases h) (by kernel_rfl) (fun _ h=>by cases h) fnExactMillValidMachine_row_tie rfl ⟨rfl,rfl⟩ (by kernel_rfl) rfl plain (by kernel_rfl)
end Go.Proofs.YtbkmglknbflkhaaGreatDoor.C
namespace Go.Proofs.YtbkmglknbflkhaaGreatDoor
theorem card_fnExactMillValidMachine:Rows.FnExactMillValidMachineCardSaid:=C.card
#print axioms card_fnExactMillValidMachine
end Go.Proofs.YtbkmglknbflkhaaGreatDoor
