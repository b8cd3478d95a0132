import Derived.Test.YtabbahpalemlhaaGreatDoorJ45
import Derived.Test.YtabbahpalemlhaaGreatDoorJ02
import Derived.Test.YtabbahpalemlhaaGreatDoorJ31
import Derived.Test.YtabbahpalemlhaaGreatDoorJ43
namespace Go.Proofs.YtabbahpalemlhaaGreatDoor
open Go.RowKit
set_option maxRecDepth 20000
theorem tokRow_get (ts:List Tok) (i:Nat) (h:i < ts.length):(tokRow ts)[i * 4]?=some (.int .i64 ts[i].kind)∧(tokRow ts)[i * 4+1]?=some (.string ⟨ts[i].text.toArray⟩)∧(tokRow ts)[i * 4+2]?=some (.int .i64 ts[i].n)∧(tokRow ts)[i * 4+3]?=some (.int .i64 ts[i].place):=by
 induction ts generalizing i with
 | nil=>simp at h
 | cons t ts ih =>
  have e:tokRow (t :: ts)=tokCells t ++ tokRow ts:=rfl
  cases i with
  | zero=>exact ⟨rfl,rfl,rfl,rfl⟩
  | succ i =>
   have hi:i < ts.length:=by simpa using h
   obtain ⟨h0,h1,h2,h3⟩:=ih i hi
   have f:∀ j,(tokRow (t :: ts))[(i+1) * 4+j]?=(tokRow ts)[i * 4+j]?:=fun j=>by
    rw [e,List.getElem?_append_right (by show 4≤_;omega)]
    congr 1
    show (i+1) * 4+j - 4=_
    omega
   exact ⟨(f 0).trans h0,(f 1).trans h1,(f 2).trans h2,(f 3).trans h3⟩
def tkOf (ts:List Tok) (i:Nat):Tk:=⟨(ts.getD i ⟨0,[],0,0⟩).kind,⟨(ts.getD i ⟨0,[],0,0⟩).text.toArray⟩,(ts.getD i ⟨0,[],0,0⟩).n,(ts.getD i ⟨0,[],0,0⟩).place⟩
theorem toks_at {w:World} {B:Nat} {v:Value} {ts:List Tok} (h0:0 < w.heap.size) (h:w.ownsRow B 30 4 v ts.length (tokRow ts)):∃ ta b tc,v=.slice ta ts.length tc∧(ts.length=0∨ta=some ⟨b,0,none⟩)∧b < w.heap.size∧TksAt w b ts.length (tkOf ts):=by
 rcases h.2 with ⟨e,hz⟩ | ⟨g,cap,cur,e,_,hg,hc,_,_,ht⟩
 ·exact ⟨none,0,0,by rw [e,hz],.inl hz,h0,fun i hi=>by omega⟩
 ·refine ⟨_,g,cap,e,.inr rfl,(Array.getElem?_eq_some_iff.1 hg).1,fun i hi=>?_⟩
  have f:∀ j u,(tokRow ts)[j]?=some u→w.cell? ⟨g,j,none⟩=some u:=fun j u hu=>by
   rw [← ht] at hu
   have hj:=(List.getElem?_eq_some_iff.1 hu).1
   rw [List.length_take] at hj
   rw [List.getElem?_take_of_lt (by omega)] at hu
   rw [cell_hp hg]
   simpa using hu
  obtain ⟨h0,h1,h2,h3⟩:=tokRow_get ts i hi
  have hd:ts.getD i ⟨0,[],0,0⟩=ts[i]:=by simp [List.getD,hi]
  unfold tkOf
  rw [hd]
  exact ⟨f _ _ h0,f _ _ h1,f _ _ h2,f _ _ h3⟩
theorem Ad.keeps {s:Ds} {w1:World} {p n:Nat} {bad:Bool} {w:World} (h:Ad s (.slice none 0 0) w1 p bad n w) {k:Nat} {o:Obj} (hk:w1.heap[k]?=some o) (hD:k≠s.D):w.heap[k]?=some o:=by
 obtain ⟨ov,_,b⟩:=h
 refine (b.sv.block k (Array.getElem?_eq_some_iff.1 hk).1 fun e=>?_).trans hk
 rcases e with e | e
 ·exact hD e
 ·simp [Value.ownBlock] at e
theorem Ad.start {W:World} {ta:Option Addr} {b T tc:Nat} {tk:Nat→Tk} {sz:Int} (h1:T=0∨ta=some ⟨b,0,none⟩) (hb:b < W.heap.size) (ht:TksAt W b T tk) (hx:∀ i,i < T→(tk i).text.size≤1000) (hT:T≤100000) :
  Ad ⟨W.heap.size,W.heap.size+1,b,T,tc,ta,tk,sz⟩ (.slice none 0 0) (W.alloc (.cells #[.slice ta T tc,.int .i64 sz,.int .i64 0,.bool false,.int .i64 0,.slice none 0 0] 91)) 0 false 0 (W.alloc (.cells #[.slice ta T tc,.int .i64 sz,.int .i64 0,.bool false,.int .i64 0,.slice none 0 0] 91)) :=
 ⟨.slice none 0 0,⟨⟨0,heap_alloc_new W _⟩,h1,ht.keep (Below.heap_alloc _ _ _ (by omega)),hx,⟨by show b < W.heap.size+1;omega,by show b≠W.heap.size;omega⟩,by show W.heap.size < W.heap.size+1;omega,by show W.heap.size+1≤_;simp,⟨[],rfl,⟨rfl,.inl ⟨rfl,rfl⟩⟩,fun x h=>(nomatch h)⟩,Nat.zero_le _,hT⟩,Dt.refl _ _ _⟩
theorem three_below {w W:World} {tb fb:Nat} (h:Below w.heap.size w W) (ht:w.heap.size≤tb) (hf:w.heap.size≤fb) (k:Nat) (a b c:Value):Below w.heap.size w ((((W.drewN k).setCell ⟨tb,0,none⟩ a).setCell ⟨fb,0,none⟩ b).setCell ⟨fb,1,none⟩ c) :=
 (((below_drewN h k).setCell (p:=⟨tb,0,none⟩) ht _).setCell (p:=⟨fb,0,none⟩) hf _).setCell (p:=⟨fb,1,none⟩) hf _
def deskB (s:Ds) (w:World):Nat:=match w.cell? ⟨s.D,3,none⟩ with
 | some (.bool true)=>0
 | _=>1
theorem Ad.deskB {s:Ds} {ov0:Value} {w0:World} {p n:Nat} {bad:Bool} {w:World} (h:Ad s ov0 w0 p bad n w):deskB s w=if bad=true then 0 else 1:=by
 unfold Proofs.YtabbahpalemlhaaGreatDoor.deskB
 rw [h.cells.2.2.1]
 cases bad <;> rfl
set_option maxHeartbeats 8000000 in
theorem parse_at (src:ByteArray) (w:World) (hl:src.size≤8000) (hT:(scanR src.data.toList).1.length≤1000) (hx:∀ t ∈ (scanR src.data.toList).1,t.text.length≤1000) :
  Calls Tryz.prog 37 #[.string src] w fun e w'=>∃ (v:Value) (c a:Int),e=.returned (.tuple #[.agg #[v],.agg #[.int .i64 c,.int .i64 a]])∧TrIn 2001 w' v∧Below w.heap.size w w':=by
 obtain ⟨R,hR⟩:∃ R,scanR src.data.toList=R:=⟨_,rfl⟩
 have HSC:=hid (fun W=>sScan_any src W hl)
 rw [hR] at HSC hT hx
 obtain ⟨ts,cN,aN⟩:=R
 dsimp only at HSC hT hx
 have HTX:=hid hx
 obtain ⟨ci,hci⟩:∃ i:Int,(cN:Int)=i:=⟨_,rfl⟩
 obtain ⟨ai,hai⟩:∃ i:Int,(aN:Int)=i:=⟨_,rfl⟩
 rw [hci,hai] at HSC
 clear hx hR hci hai
 have HB0:=hid (((Below.refl w.heap.size w).alloc (Nat.le_refl _) (.cells #[.slice none 0 0] 50)).alloc (by simp) (.cells #[.int .i64 0,.int .i64 0] 26))
 have HX0:Hid (((w.alloc (.cells #[.slice none 0 0] 50)).alloc (.cells #[.int .i64 0,.int .i64 0] 26)).heap[w.heap.size]?=some (.cells #[.slice none 0 0] 50 (0,0))):=by
  show _=_
  rw [Below.heap_alloc _ _ _ (by simp)];exact heap_alloc_new w _
 have HY0:Hid (((w.alloc (.cells #[.slice none 0 0] 50)).alloc (.cells #[.int .i64 0,.int .i64 0] 26)).heap[w.heap.size+1]?=some (.cells #[.int .i64 0,.int .i64 0] 26 (0,0))):=by
  have:=heap_alloc_new (w.alloc (.cells #[.slice none 0 0] 50)) (.cells #[.int .i64 0,.int .i64 0] 26)
  rwa [World.size_alloc] at this
 go_enter Tryz.func37,Tryz.ntmps37
 go_upto_region 1 with fail
 obtain ⟨tb,htb⟩:∃ g,w.heap.size=g:=⟨_,rfl⟩
 obtain ⟨fb,hfb⟩:∃ g,w.heap.size+1=g:=⟨_,rfl⟩
 obtain ⟨W0,hW0⟩:∃ W,(w.alloc (.cells #[.slice none 0 0] 50)).alloc (.cells #[.int .i64 0,.int .i64 0] 26)=W:=⟨_,rfl⟩
 rw [hW0] at HB0 HX0 HY0 ⊢
 rw [hfb] at HY0 ⊢
 rw [htb] at HX0 ⊢
 have htw:w.heap.size≤tb:=by omega
 have hfw:w.heap.size≤fb:=by omega
 have hne:tb≠fb:=by omega
 clear hW0 hfb htb
 go_wp2_with fail
 refine (HSC.out _).mono ?_
 rintro e w1 ⟨v1,rfl,h1,hb1⟩
 have HR1:=hid h1
 have HX1:=hid (hp_next HX0.out hb1)
 have HY1:=hid (hp_next HY0.out hb1)
 have HB1:=hid (HB0.out.trans (hb1.mono HB0.out.size))
 have hz1:0 < w1.heap.size:=by have:=(Array.getElem?_eq_some_iff.1 HX1.out).1;omega
 clear h1 hb1 HX0 HY0 HB0 HSC
 have HAL:=hid ((Below.refl w1.heap.size w1).alloc (Nat.le_refl _) (.cells #[.int .i64 ci,.int .i64 ai] 26))
 have HF2:=hid (heap_alloc_new w1 (.cells #[.int .i64 ci,.int .i64 ai] 26))
 have HX2:=hid (hp_next HX1.out HAL.out)
 have HY2:=hid (hp_next HY1.out HAL.out)
 have HR2:=hid (own_below HR1.out HAL.out)
 have HB2:=hid (HB1.out.trans (HAL.out.mono HB1.out.size))
 have hfx:fb < w1.heap.size:=(Array.getElem?_eq_some_iff.1 HY1.out).1
 have htx:tb < w1.heap.size:=(Array.getElem?_eq_some_iff.1 HX1.out).1
 go_upto_region 2 with fail
 obtain ⟨fx,hfxe⟩:∃ g,w1.heap.size=g:=⟨_,rfl⟩
 obtain ⟨W2,hW2⟩:∃ W,w1.alloc (.cells #[.int .i64 ci,.int .i64 ai] 26)=W:=⟨_,rfl⟩
 have hz2:0 < W2.heap.size:=by rw [← hW2];simp
 have hfw2:fx < W2.heap.size:=by rw [← hW2,← hfxe];simp
 have hfxw:w.heap.size≤fx:=by rw [← hfxe];exact HB1.out.size
 rw [hW2] at HF2 HX2 HY2 HR2 HB2 ⊢
 rw [hfxe] at HF2 hfx htx ⊢
 clear hW2 hfxe HAL HX1 HY1 HR1 HB1
 have r0:=cell_hp HX2.out 0
 have y0:=cell_hp HY2.out 0
 have y1:=cell_hp HY2.out 1
 have f0:=cell_hp HF2.out 0
 have f1:=cell_hp HF2.out 1
 have zr:=frozen_hp HX2.out 0
 have zy0:=frozen_hp HY2.out 0
 have zy1:=frozen_hp HY2.out 1
 simp at r0 y0 y1 f0 f1
 by_cases hc:ci=0
 ·subst hc
  have hsz:src.size≤9223372036854775807:=by omega
  obtain ⟨ta,b,tc,rfl,hta,hbw,htk⟩:=toks_at hz2 HR2.out
  have hA:=Ad.start (W:=W2) (tc:=tc) (sz:=(src.size:Int)) hta hbw htk (fun i hi=>by
   have hm:ts.getD i ⟨0,[],0,0⟩ ∈ ts:=by rw [List.getD_eq_getElem?_getD,List.getElem?_eq_getElem hi];exact List.getElem_mem hi
   have:=HTX.out _ hm
   unfold tkOf
   show (ByteArray.mk _).data.size≤1000
   simpa using this) (by omega)
  obtain ⟨s,hs⟩:∃ s:Ds,(⟨W2.heap.size,W2.heap.size+1,b,ts.length,tc,ta,tkOf ts,(src.size:Int)⟩:Ds)=s:=⟨_,rfl⟩
  rw [hs] at hA
  have hsD:W2.heap.size=s.D:=by rw [← hs]
  have hsT:ts.length=s.T:=by rw [← hs]
  have HA3:=hid hA
  have HALD:=hid ((Below.refl W2.heap.size W2).alloc (Nat.le_refl _) (.cells #[.slice ta ts.length tc,.int .i64 (src.size:Int),.int .i64 0,.bool false,.int .i64 0,.slice none 0 0] 91))
  have HX3:=hid (hp_next HX2.out HALD.out)
  have HY3:=hid (hp_next HY2.out HALD.out)
  have HB3:=hid (HB2.out.trans (HALD.out.mono HB2.out.size))
  have hT2:s.T≤1000:=by rw [← hsT];exact hT
  have HSD:=hid hsD
  clear hA hs hta hbw htk HALD
  have HDW:Hid (tb≠s.D∧fb≠s.D):=by rw [← hsD];exact ⟨by omega,by omega⟩
  clear hsD hsT
  go_upto_region 6 with fail
  obtain ⟨W3,hW3⟩:∃ W,W2.alloc (.cells #[.slice ta ts.length tc,.int .i64 (src.size:Int),.int .i64 0,.bool false,.int .i64 0,.slice none 0 0] 91)=W:=⟨_,rfl⟩
  rw [hW3] at HA3 HX3 HY3 HB3 ⊢
  rw [HSD.out]
  have hTT:=HA3.out.pT.2
  have HKX:Hid (∀ q bb k V,Ad s (.slice none 0 0) W3 q bb k V→V.heap[tb]?=some (.cells #[.slice none 0 0] 50 (0,0))∧V.heap[fb]?=some (.cells #[.int .i64 0,.int .i64 0] 26 (0,0))∧Below w.heap.size w V):=fun q bb k V h=>by
   refine ⟨h.keeps HX3.out HDW.out.1,h.keeps HY3.out HDW.out.2,?_⟩
   obtain ⟨ov,_,b⟩:=h
   refine HB3.out.trans (b.sv.below HB3.out.size fun k hk=>?_)
   rcases hk with hk | hk
   ·rw [hk,← HSD.out]
    exact HB2.out.size
   ·simp [Value.ownBlock] at hk
  clear hW3 HX3 HY3 HB3 HX2 HY2 HF2 HR2 HB2 r0 y0 y1 f0 f1 zr zy0 zy1
  go_loopw [7] (fun c7 wr=>∃ m q k:Nat,∃ bb:Bool,c7=.int .i64 m∧m≤q+1∧(bb=false→m≤q)∧k≤2 * q∧Ad s (.slice none 0 0) W3 q bb k wr) (fun _ wr=>2 * (s.T - deskP s wr)+deskB s wr)
  case atStart=>exact ⟨0,0,0,false,rfl,by omega,fun _=>by omega,by omega,HA3.out⟩
  case round =>
   obtain ⟨m,q,k,bb,rfl,lm,lm2,lk,ad⟩:=hrel
   have HAr:=hid ad
   have HDP:=hid ad.deskP
   have HDB:=hid ad.deskB
   have hqT:=ad.pT.1
   have HLM:=hid lm2
   clear ad HA3 lm2
   obtain ⟨c0,c2,c3,_⟩:=HAr.out.cells
   cases bb
   ·by_cases hq:q < s.T
    ·have hqi:(q:Int) < (s.T:Int):=by omega
     have HAN:Hid (∀ j,Ad s (.slice none 0 0) W3 q false k (wr.drewN j)):=fun j=>HAr.out.next (below_drewN (Below.refl _ _) j)
     go_wp2_with fail
     go_quiet (fail)
     go_wp2_with fail
     refine (statement_at (fun q _=>e_all s q) (HAN.out _) (by omega)).mono ?_
     rintro e w4 ⟨rfl,p4,b4,n4,l4a,l4b,l4c,l4d,a4⟩
     have HA4:=hid a4
     have HL4:=hid l4d
     have hm:m≤q:=HLM.out (by trivial)
     clear a4 l4d HAN c0 c2 c3
     go_wp2
     go_roundw
     case rel=>exact ⟨m+1,p4,n4,b4,by go_num,by omega,fun h=>(by rcases HL4.out with h4 | h4;omega;rw [h4] at h;cases h),by omega,HA4.out⟩
     case measure =>
      rw [HA4.out.deskP,HA4.out.deskB,HDP.out,HDB.out]
      have:=HA4.out.pT
      rcases HL4.out with h4 | h4
      ·cases b4 <;> simp <;> omega
      ·rw [h4];simp;omega
    ·have hqi:decide ((q:Int) < (s.T:Int))=false:=by simp;omega
     have HAN:Hid (∀ j,Ad s (.slice none 0 0) W3 q false k (wr.drewN j)):=fun j=>HAr.out.next (below_drewN (Below.refl _ _) j)
     go_wp2_with fail
     go_quiet (fail)
     go_wp2_with fail
     refine (put_at9 (HAN.out _) ⟨24,0,0,⟨#[]⟩,(m:Int)⟩ (by show (⟨#[]⟩:ByteArray).size≤1000;decide) (by omega)).mono ?_
     rintro e w5 ⟨rfl,a5⟩
     obtain ⟨hx5,hy5,hb5⟩:=HKX.out _ _ _ _ a5
     have HX5:=hid hx5
     have HY5:=hid hy5
     have HB5:=hid hb5
     obtain ⟨ov5,hd5,_⟩:=a5
     have d5:=hd5.cells.2.2.2.2
     obtain ⟨O,hO,hOx,_,hcase⟩:=hd5.sl
     have HOL:=hid hO
     have HOX:=hid hOx
     clear hx5 hy5 hb5 HAN c0 c2 c3 hO hOx hd5 HAr
     obtain ⟨g,cap,rfl,hnc,hgw,hrow⟩:=hcase.resolve_left (fun h=>by have:=h.2;omega)
     have HROW:=hid hrow
     clear hrow hcase
     have HAL:=hid ((Below.refl w5.heap.size w5).alloc (Nat.le_refl _) (.cells #[.slice (some ⟨g,0,none⟩) (k+1) cap] 50))
     have HT6:=hid (heap_alloc_new w5 (.cells #[.slice (some ⟨g,0,none⟩) (k+1) cap] 50))
     have HX6:=hid (hp_next HX5.out HAL.out)
     have HY6:=hid (hp_next HY5.out HAL.out)
     have HB6:=hid (HB5.out.trans (HAL.out.mono HB5.out.size))
     have HROW6:Hid (RowIn (w5.alloc (.cells #[.slice (some ⟨g,0,none⟩) (k+1) cap] 50)) g O):=HROW.out.keep (HAL.out.block g hgw)
     have htb6:tb < w5.heap.size:=(Array.getElem?_eq_some_iff.1 HX5.out).1
     have hfb6:fb < w5.heap.size:=(Array.getElem?_eq_some_iff.1 HY5.out).1
     go_upto_region 13 with fail
     obtain ⟨xt,hxt⟩:∃ g,w5.heap.size=g:=⟨_,rfl⟩
     obtain ⟨W6,hW6⟩:∃ W,w5.alloc (.cells #[.slice (some ⟨g,0,none⟩) (k+1) cap] 50)=W:=⟨_,rfl⟩
     have hg6:g < W6.heap.size:=by rw [← hW6];simp;omega
     rw [hW6] at HT6 HX6 HY6 HB6 HROW6 ⊢
     rw [hxt] at HT6 htb6 hfb6 ⊢
     clear hW6 hxt HAL HX5 HY5 HB5 HROW d5 hgw
     have x0:=cell_hp HT6.out 0
     simp at x0
     have HNA:Hid (NodesAt W6 g (k+1) (fun i=>O.getD i ⟨0,0,0,⟨#[]⟩,0⟩)):=fun i hi=>by
      have hi':i < O.length:=by rw [HOL.out];exact hi
      obtain ⟨h0,h1,h2,h3,h4⟩:=HROW6.out.cell i hi'
      have hd:O.getD i ⟨0,0,0,⟨#[]⟩,0⟩=O[i]:=by simp [List.getD,hi']
      dsimp only
      rw [hd]
      exact ⟨h0,h1,h2,h3,h4⟩
     have HVT:=hid (specValid_all g (k+1) cap (fun i=>O.getD i ⟨0,0,0,⟨#[]⟩,0⟩) W6 (by omega) hg6 HNA.out (fun i hi=>by
      have hi':i < O.length:=by rw [HOL.out];exact hi
      have hm:O.getD i ⟨0,0,0,⟨#[]⟩,0⟩ ∈ O:=by rw [List.getD_eq_getElem?_getD,List.getElem?_eq_getElem hi'];exact List.getElem_mem hi'
      have:=HOX.out _ hm
      unfold maxLen
      omega))
     go_wp2_with fail
     refine HVT.out.mono ?_
     rintro e w7 ⟨hsay,hb7⟩
     have HX7:=hid (hp_next HX6.out hb7)
     have HY7:=hid (hp_next HY6.out hb7)
     have HT7:=hid (hp_next HT6.out hb7)
     have HB7:=hid (HB6.out.trans (hb7.mono HB6.out.size))
     have HROW7:=hid (HROW6.out.keep (hb7.block g hg6))
     clear hb7 HX6 HY6 HT6 HB6 HROW6 HNA HVT x0
     have r0:=cell_hp HX7.out 0
     have y0:=cell_hp HY7.out 0
     have y1:=cell_hp HY7.out 1
     have x0:=cell_hp HT7.out 0
     have zr:=frozen_hp HX7.out 0
     have zy0:=frozen_hp HY7.out 0
     have zy1:=frozen_hp HY7.out 1
     simp at r0 y0 y1 x0
     have n1:xt≠tb:=by omega
     have n2:xt≠fb:=by omega
     have n3:tb≠xt:=by omega
     have n4:fb≠xt:=by omega
     have n5:fb≠tb:=fun e=>hne e.symm
     have HE:Hid (∀ k a b c,Below w.heap.size w ((((w7.drewN k).setCell ⟨tb,0,none⟩ a).setCell ⟨fb,0,none⟩ b).setCell ⟨fb,1,none⟩ c)):=fun k a b c=>three_below HB7.out htw hfw k _ _ _
     have HHAS:Hid (∀ j a b c,Has 2001 ((((w7.drewN j).setCell ⟨tb,0,none⟩ a).setCell ⟨fb,0,none⟩ b).setCell ⟨fb,1,none⟩ c) (.slice (some ⟨g,0,none⟩) (k+1) cap)):=fun j a b c=>by
      obtain ⟨cur,hcur,_⟩:=id HROW7.out
      have g1:g≠tb:=fun e=>by rw [e,HX7.out] at hcur;cases hcur
      have g2:g≠fb:=fun e=>by rw [e,HY7.out] at hcur;cases hcur
      have hr:RowIn ((((w7.drewN j).setCell ⟨tb,0,none⟩ a).setCell ⟨fb,0,none⟩ b).setCell ⟨fb,1,none⟩ c) g O:=by
       refine HROW7.out.keep ?_
       rw [Below.heap_setCell _ _ _ _ g2,Below.heap_setCell _ _ _ _ g2,Below.heap_setCell _ _ _ _ g1]
       rfl
      have hnd:=hr.nd (c:=cap) (fun e=>by have:=HOL.out;rw [e] at this;cases this) (by rw [HOL.out];exact hnc)
      rw [HOL.out] at hnd
      exact ⟨O,hnd,by rw [HOL.out];omega,HOX.out⟩
     by_cases hv:ValidT (fun i=>O.getD i ⟨0,0,0,⟨#[]⟩,0⟩) (k+1)
     ·obtain rfl:=hsay.pos hv
      clear hsay hv
      go_wp2
      first
      | exact bodyPost_ret (v:=.tuple #[.agg #[.slice (some ⟨g,0,none⟩) (k+1) cap],.agg #[.int .i64 0,.int .i64 0]]) (by simp [results,Tryz.results37,go_sem,r0,y0,y1]) rfl ⟨_,_,_,rfl,.inr (HHAS.out 0 _ _ _),HE.out 0 _ _ _⟩
      | exact bodyPost_ret (v:=.tuple #[.agg #[.slice (some ⟨g,0,none⟩) (k+1) cap],.agg #[.int .i64 0,.int .i64 0]]) (by simp [results,Tryz.results37,go_sem,r0,y0,y1]) rfl ⟨_,_,_,rfl,.inr (HHAS.out _ _ _ _),HE.out _ _ _ _⟩
     ·obtain rfl:=hsay.neg hv
      clear hsay hv
      go_wp2
      exact bodyPost_ret (v:=.tuple #[.agg #[.slice none 0 0],.agg #[.int .i64 7,.int .i64 0]]) (by simp [results,Tryz.results37,go_sem,r0,y0,y1]) rfl ⟨_,_,_,rfl,.inl ⟨_,_,rfl⟩,HE.out 0 _ _ _⟩
   ·have HAN:Hid (∀ j,Ad s (.slice none 0 0) W3 q true k (wr.drewN j)):=fun j=>HAr.out.next (below_drewN (Below.refl _ _) j)
    obtain ⟨hx5,hy5,hb5⟩:=HKX.out _ _ _ _ HAr.out
    obtain ⟨qa,c4⟩:∃ q:Int,wr.cell? ⟨s.D,4,none⟩=some (.int .i64 q):=by obtain ⟨ov,h1,_⟩:=HAr.out;exact h1.cell4
    have r0:=cell_hp hx5 0
    have y0:=cell_hp hy5 0
    have y1:=cell_hp hy5 1
    have zr:=frozen_hp hx5 0
    have zy0:=frozen_hp hy5 0
    have zy1:=frozen_hp hy5 1
    simp at r0 y0 y1
    have n1:s.D≠tb:=fun e=>HDW.out.1 e.symm
    have n2:s.D≠fb:=fun e=>HDW.out.2 e.symm
    have n5:fb≠tb:=fun e=>hne e.symm
    have HE:Hid (∀ k b c,Below w.heap.size w ((((wr.drewN k).setCell ⟨tb,0,none⟩ (.slice none 0 0)).setCell ⟨fb,0,none⟩ b).setCell ⟨fb,1,none⟩ c)):=fun k b c=>three_below hb5 htw hfw k _ _ _
    clear hx5 hy5 hb5
    go_wp2_with fail
    go_quiet (fail)
    go_wp2
    go_region
    all_goals
     go_wp2
     exact bodyPost_ret (v:=.tuple #[.agg #[.slice none 0 0],.agg #[.int .i64 6,.int .i64 qa]]) (by simp [results,Tryz.results37,go_sem,r0,y0,y1]) rfl ⟨_,_,_,rfl,.inl ⟨_,_,rfl⟩,HE.out _ _ _⟩
 ·have hc1:(ci != 0)=true:=by simpa using hc
  have n1:fx≠tb:=by omega
  have n2:fx≠fb:=by omega
  have n3:tb≠fx:=by omega
  have n4:fb≠fx:=by omega
  have n5:fb≠tb:=by omega
  have HE:Hid (∀ k b c,Below w.heap.size w ((((W2.drewN k).setCell ⟨tb,0,none⟩ (.slice none 0 0)).setCell ⟨fb,0,none⟩ b).setCell ⟨fb,1,none⟩ c)):=fun k b c=>three_below HB2.out htw hfw k _ _ _
  go_wp2
  go_region
  all_goals
   go_wp2
   exact bodyPost_ret (v:=.tuple #[.agg #[.slice none 0 0],.agg #[.int .i64 ci,.int .i64 ai]]) (by simp [results,Tryz.results37,go_sem,r0,y0,y1]) rfl ⟨_,_,_,rfl,.inl ⟨_,_,rfl⟩,HE.out _ _ _⟩
end Go.Proofs.YtabbahpalemlhaaGreatDoor
