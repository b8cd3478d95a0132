import Derived.Deep.DeepCutAuto
import Derived.Test.YthnohneaanphbaaGreatDoorJ45
import Derived.Test.YthnohneaanphbaaGreatDoorJ39
import Derived.Test.YthnohneaanphbaaGreatDoorJ46
import Derived.Test.YthnohneaanphbaaGreatDoorJ29
import Derived.Test.YthnohneaanphbaaGreatDoorJ43
import Derived.Test.YthnohneaanphbaaGreatDoorJ42
namespace Go.Proofs.YthnohneaanphbaaGreatDoor
open Go.RowKit
set_option maxRecDepth 20000
theorem tokRow_get (ts:List Tok) (i:Nat) (h:i < ts.length):(K.tokRow ts)[i * 4]?=some (.int .i64 ts[i].kind)∧(K.tokRow ts)[i * 4+1]?=some (.string ⟨ts[i].text.toArray⟩)∧(K.tokRow ts)[i * 4+2]?=some (.int .i64 ts[i].n)∧(K.tokRow ts)[i * 4+3]?=some (.int .i64 ts[i].place):=by
 induction ts generalizing i with
 | nil=>simp at h
 | cons t ts ih =>
  have e:K.tokRow (t :: ts)=K.tokCells t ++ K.tokRow ts:=rfl
  cases i with
  | zero=>exact ⟨rfl,rfl,rfl,rfl⟩
  | succ i =>
   have hi:i < ts.length:=by simpa using h
   obtain ⟨h0,h1,h2,h3⟩:=ih i hi
   have f:∀ j,(K.tokRow (t :: ts))[(i+1) * 4+j]?=(K.tokRow ts)[i * 4+j]?:=fun j=>by
    rw [e,List.getElem?_append_right (by show 4≤_;omega)]
    congr 1
    show (i+1) * 4+j - 4=_
    omega
   exact ⟨(f 0).trans h0,(f 1).trans h1,(f 2).trans h2,(f 3).trans h3⟩
def tkOf (ts:List Tok) (i:Nat):Tk:=⟨(ts.getD i ⟨0,[],0,0⟩).kind,⟨(ts.getD i ⟨0,[],0,0⟩).text.toArray⟩,(ts.getD i ⟨0,[],0,0⟩).n,(ts.getD i ⟨0,[],0,0⟩).place⟩
theorem toks_at {w:World} {B:Nat} {v:Value} {ts:List Tok} (h0:0 < w.heap.size) (h:w.ownsRow B 130 4 v ts.length (K.tokRow ts)):∃ ta b tc,v=.slice ta ts.length tc∧(ts.length=0∨ta=some ⟨b,0,none⟩)∧b < w.heap.size∧TksAt w b ts.length (tkOf ts):=by
 rcases h.2 with ⟨e,hz⟩ | ⟨g,cap,cur,e,_,hg,hc,_,_,ht⟩
 ·exact ⟨none,0,0,by rw [e,hz],.inl hz,h0,fun i hi=>by omega⟩
 ·refine ⟨_,g,cap,e,.inr rfl,(Array.getElem?_eq_some_iff.1 hg).1,fun i hi=>?_⟩
  have f:∀ j u,(K.tokRow ts)[j]?=some u→w.cell? ⟨g,j,none⟩=some u:=fun j u hu=>by
   rw [← ht] at hu
   have hj:=(List.getElem?_eq_some_iff.1 hu).1
   rw [List.length_take] at hj
   rw [List.getElem?_take_of_lt (by omega)] at hu
   rw [cell_hp hg]
   simpa using hu
  obtain ⟨h0,h1,h2,h3⟩:=tokRow_get ts i hi
  have hd:ts.getD i ⟨0,[],0,0⟩=ts[i]:=by simp [List.getD,hi]
  unfold tkOf
  rw [hd]
  exact ⟨f _ _ h0,f _ _ h1,f _ _ h2,f _ _ h3⟩
theorem Ad.keeps {s:Ds} {w1:World} {p n:Nat} {bad:Bool} {w:World} (h:Ad s (.slice none 0 0) w1 p bad n w) {k:Nat} {o:Obj} (hk:w1.heap[k]?=some o) (hD:k≠s.D):w.heap[k]?=some o:=by
 obtain ⟨ov,_,b⟩:=h
 refine (b.sv.block k (Array.getElem?_eq_some_iff.1 hk).1 fun e=>?_).trans hk
 rcases e with e | e
 ·exact hD e
 ·simp [Value.ownBlock] at e
theorem Ad.start {W:World} {ta:Option Addr} {b T tc:Nat} {tk:Nat→Tk} {sz:Int} (h1:T=0∨ta=some ⟨b,0,none⟩) (hb:b < W.heap.size) (ht:TksAt W b T tk) (hx:∀ i,i < T→(tk i).text.size≤1000) (hT:T≤100000) :
  Ad ⟨W.heap.size,W.heap.size+1,b,T,tc,ta,tk,sz⟩ (.slice none 0 0) (W.alloc (.cells #[.slice ta T tc,.int .i64 sz,.int .i64 0,.bool false,.int .i64 0,.slice none 0 0] 94)) 0 false 0 (W.alloc (.cells #[.slice ta T tc,.int .i64 sz,.int .i64 0,.bool false,.int .i64 0,.slice none 0 0] 94)) :=
 ⟨.slice none 0 0,⟨⟨0,heap_alloc_new W _⟩,h1,ht.keep (Below.heap_alloc _ _ _ (by omega)),hx,⟨by show b < W.heap.size+1;omega,by show b≠W.heap.size;omega⟩,by show W.heap.size < W.heap.size+1;omega,by show W.heap.size+1≤_;simp,⟨[],rfl,⟨rfl,.inl ⟨rfl,rfl⟩⟩,fun x h=>(nomatch h)⟩,Nat.zero_le _,hT⟩,Dt.refl _ _ _⟩
theorem three_below {w W:World} {tb fb:Nat} (h:Below w.heap.size w W) (ht:w.heap.size≤tb) (hf:w.heap.size≤fb) (k:Nat) (a b c:Value):Below w.heap.size w ((((W.drewN k).setCell ⟨tb,0,none⟩ a).setCell ⟨fb,0,none⟩ b).setCell ⟨fb,1,none⟩ c) :=
 (((below_drewN h k).setCell (p:=⟨tb,0,none⟩) ht _).setCell (p:=⟨fb,0,none⟩) hf _).setCell (p:=⟨fb,1,none⟩) hf _
def deskB (s:Ds) (w:World):Nat:=match w.cell? ⟨s.D,3,none⟩ with
 | some (.bool true)=>0
 | _=>1
theorem Ad.deskB {s:Ds} {ov0:Value} {w0:World} {p n:Nat} {bad:Bool} {w:World} (h:Ad s ov0 w0 p bad n w):deskB s w=if bad=true then 0 else 1:=by
 unfold Proofs.YthnohneaanphbaaGreatDoor.deskB
 rw [h.cells.2.2.1]
 cases bad <;> rfl
set_option maxHeartbeats 8000000 in
theorem parse_at (src:ByteArray) (w:World) (hl:src.size≤8000) (hT:(scanR src.data.toList).1.length≤1000) (hx:∀ t ∈ (scanR src.data.toList).1,t.text.length≤1000) :
  Calls Tryz.prog 29 #[.string src] w fun e w'=>∃ (v:Value) (c a:Int),e=.returned (.tuple #[.agg #[v],.agg #[.int .i64 c,.int .i64 a]])∧TrIn 2001 w' v∧Below w.heap.size w w':=by
 obtain ⟨R,hR⟩:∃ R,scanR src.data.toList=R:=⟨_,rfl⟩
 have HSC:=hid (fun W=>K.sScan_any src W hl)
 rw [hR] at HSC hT hx
 obtain ⟨ts,cN,aN⟩:=R
 dsimp only at HSC hT hx
 have HTX:=hid hx
 obtain ⟨ci,hci⟩:∃ i:Int,(cN:Int)=i:=⟨_,rfl⟩
 obtain ⟨ai,hai⟩:∃ i:Int,(aN:Int)=i:=⟨_,rfl⟩
 rw [hci,hai] at HSC
 clear hx hR hci hai
 have HB0:=hid (((Below.refl w.heap.size w).alloc (Nat.le_refl _) (.cells #[.slice none 0 0] 25)).alloc (by simp) (.cells #[.int .i64 0,.int .i64 0] 37))
 have HX0:Hid (((w.alloc (.cells #[.slice none 0 0] 25)).alloc (.cells #[.int .i64 0,.int .i64 0] 37)).heap[w.heap.size]?=some (.cells #[.slice none 0 0] 25 (0,0))):=by
  show _=_
  rw [Below.heap_alloc _ _ _ (by simp)];exact heap_alloc_new w _
 have HY0:Hid (((w.alloc (.cells #[.slice none 0 0] 25)).alloc (.cells #[.int .i64 0,.int .i64 0] 37)).heap[w.heap.size+1]?=some (.cells #[.int .i64 0,.int .i64 0] 37 (0,0))):=by
  have:=heap_alloc_new (w.alloc (.cells #[.slice none 0 0] 25)) (.cells #[.int .i64 0,.int .i64 0] 37)
  rwa [World.size_alloc] at this
 go_enter Tryz.func29,Tryz.ntmps29
 go_upto_region 1 with fail
 obtain ⟨tb,htb⟩:∃ g,w.heap.size=g:=⟨_,rfl⟩
 obtain ⟨fb,hfb⟩:∃ g,w.heap.size+1=g:=⟨_,rfl⟩
 obtain ⟨W0,hW0⟩:∃ W,(w.alloc (.cells #[.slice none 0 0] 25)).alloc (.cells #[.int .i64 0,.int .i64 0] 37)=W:=⟨_,rfl⟩
 rw [hW0] at HB0 HX0 HY0 ⊢
 rw [hfb] at HY0 ⊢
 rw [htb] at HX0 ⊢
 have htw:w.heap.size≤tb:=by omega
 have hfw:w.heap.size≤fb:=by omega
 have hne:tb≠fb:=by omega
 clear hW0 hfb htb
 go_wp2_with fail
 refine (HSC.out _).mono ?_
 rintro e w1 ⟨v1,rfl,h1,hb1⟩
 have HR1:=hid h1
 have HX1:=hid (hp_next HX0.out hb1)
 have HY1:=hid (hp_next HY0.out hb1)
 have HB1:=hid (HB0.out.trans (hb1.mono HB0.out.size))
 have hz1:0 < w1.heap.size:=by have:=(Array.getElem?_eq_some_iff.1 HX1.out).1;omega
 clear h1 hb1 HX0 HY0 HB0 HSC
 have HAL:=hid ((Below.refl w1.heap.size w1).alloc (Nat.le_refl _) (.cells #[.int .i64 ci,.int .i64 ai] 37))
 have HF2:=hid (heap_alloc_new w1 (.cells #[.int .i64 ci,.int .i64 ai] 37))
 have HX2:=hid (hp_next HX1.out HAL.out)
 have HY2:=hid (hp_next HY1.out HAL.out)
 have HR2:=hid (own_below HR1.out HAL.out)
 have HB2:=hid (HB1.out.trans (HAL.out.mono HB1.out.size))
 have hfx:fb < w1.heap.size:=(Array.getElem?_eq_some_iff.1 HY1.out).1
 have htx:tb < w1.heap.size:=(Array.getElem?_eq_some_iff.1 HX1.out).1
 go_upto_region 2 with fail
 obtain ⟨fx,hfxe⟩:∃ g,w1.heap.size=g:=⟨_,rfl⟩
 obtain ⟨W2,hW2⟩:∃ W,w1.alloc (.cells #[.int .i64 ci,.int .i64 ai] 37)=W:=⟨_,rfl⟩
 have hz2:0 < W2.heap.size:=by rw [← hW2];simp
 have hfw2:fx < W2.heap.size:=by rw [← hW2,← hfxe];simp
 have hfxw:w.heap.size≤fx:=by rw [← hfxe];exact HB1.out.size
 rw [hW2] at HF2 HX2 HY2 HR2 HB2 ⊢
 rw [hfxe] at HF2 hfx htx ⊢
 clear hW2 hfxe HAL HX1 HY1 HR1 HB1
 have r0:=cell_hp HX2.out 0
 have y0:=cell_hp HY2.out 0
 have y1:=cell_hp HY2.out 1
 have f0:=cell_hp HF2.out 0
 have f1:=cell_hp HF2.out 1
 have zr:=frozen_hp HX2.out 0
 have zy0:=frozen_hp HY2.out 0
 have zy1:=frozen_hp HY2.out 1
 simp at r0 y0 y1 f0 f1
 by_cases hc:ci=0
 ·subst hc
  have hsz:src.size≤9223372036854775807:=by omega
  obtain ⟨ta,b,tc,rfl,hta,hbw,htk⟩:=toks_at hz2 HR2.out
  have hA:=Ad.start (W:=W2) (tc:=tc) (sz:=(src.size:Int)) hta hbw htk (fun i hi=>by
   have hm:ts.getD i ⟨0,[],0,0⟩ ∈ ts:=by rw [List.getD_eq_getElem?_getD,List.getElem?_eq_getElem hi];exact List.getElem_mem hi
   have:=HTX.out _ hm
   unfold tkOf
   show (ByteArray.mk _).data.size≤1000
   simpa using this) (by omega)
  obtain ⟨s,hs⟩:∃ s:Ds,(⟨W2.heap.size,W2.heap.size+1,b,ts.length,tc,ta,tkOf ts,(src.size:Int)⟩:Ds)=s:=⟨_,rfl⟩
  rw [hs] at hA
  have hsD:W2.heap.size=s.D:=by rw [← hs]
  have hsT:ts.length=s.T:=by rw [← hs]
  have HA3:=hid hA
  have HALD:=hid ((Below.refl W2.heap.size W2).alloc (Nat.le_refl _) (.cells #[.slice ta ts.length tc,.int .i64 (src.size:Int),.int .i64 0,.bool false,.int .i64 0,.slice none 0 0] 94))
  have HX3:=hid (hp_next HX2.out HALD.out)
  have HY3:=hid (hp_next HY2.out HALD.out)
  have HB3:=hid (HB2.out.trans (HALD.out.mono HB2.out.size))
  have hT2:s.T≤1000:=by rw [← hsT];exact hT
  have HSD:=hid hsD
  clear hA hs hta hbw htk HALD
  have HDW:Hid (tb≠s.D∧fb≠s.D):=by rw [← hsD];exact ⟨by omega,by omega⟩
  clear hsD hsT
  go_upto_region 6 with fail
  obtain ⟨W3,hW3⟩:∃ W,W2.alloc (.cells #[.slice ta ts.length tc,.int .i64 (src.size:Int),.int .i64 0,.bool false,.int .i64 0,.slice none 0 0] 94)=W:=⟨_,rfl⟩
  rw [hW3] at HA3 HX3 HY3 HB3 ⊢
  rw [HSD.out]
  have hTT:=HA3.out.pT.2
  have HKX:Hid (∀ q bb k V,Ad s (.slice none 0 0) W3 q bb k V→V.heap[tb]?=some (.cells #[.slice none 0 0] 25 (0,0))∧V.heap[fb]?=some (.cells #[.int .i64 0,.int .i64 0] 37 (0,0))∧Below w.heap.size w V):=fun q bb k V h=>by
   refine ⟨h.keeps HX3.out HDW.out.1,h.keeps HY3.out HDW.out.2,?_⟩
   obtain ⟨ov,_,b⟩:=h
   refine HB3.out.trans (b.sv.below HB3.out.size fun k hk=>?_)
   rcases hk with hk | hk
   ·rw [hk,← HSD.out]
    exact HB2.out.size
   ·simp [Value.ownBlock] at hk
  clear hW3 HX3 HY3 HB3 HX2 HY2 HF2 HR2 HB2 r0 y0 y1 f0 f1 zr zy0 zy1
  go_loopw [7] (fun c7 wr=>∃ m q k:Nat,∃ bb:Bool,c7=.int .i64 m∧m≤q+1∧(bb=false→m≤q)∧k≤2 * q∧Ad s (.slice none 0 0) W3 q bb k wr) (fun _ wr=>2 * (s.T - deskP s wr)+deskB s wr)
  case atStart=>exact ⟨0,0,0,false,rfl,by omega,fun _=>by omega,by omega,HA3.out⟩
  case round =>
   obtain ⟨m,q,k,bb,rfl,lm,lm2,lk,ad⟩:=hrel
   have HAr:=hid ad
   have HDP:=hid ad.deskP
   have HDB:=hid ad.deskB
   have hqT:=ad.pT.1
   have HLM:=hid lm2
   clear ad HA3 lm2
   obtain ⟨c0,c2,c3,_⟩:=HAr.out.cells
   cases bb
   ·by_cases hq:q < s.T
    ·have hqi:(q:Int) < (s.T:Int):=by omega
     have HAN:Hid (∀ j,Ad s (.slice none 0 0) W3 q false k (wr.drewN j)):=fun j=>HAr.out.next (below_drewN (Below.refl _ _) j)
     go_wp2_with fail
     go_quiet (fail)
     go_wp2_with fail
     refine (statement_at (fun q _=>e_all s q) (HAN.out _) (by omega)).mono ?_
     rintro e w4 ⟨rfl,p4,b4,n4,l4a,l4b,l4c,l4d,a4⟩
     have HA4:=hid a4
     have HL4:=hid l4d
     have hm:m≤q:=HLM.out (by trivial)
     clear a4 l4d HAN c0 c2 c3
     go_wp2
     go_roundw
     case rel=>exact ⟨m+1,p4,n4,b4,by go_num,by omega,fun h=>(by rcases HL4.out with h4 | h4;omega;rw [h4] at h;cases h),by omega,HA4.out⟩
     case measure =>
      rw [HA4.out.deskP,HA4.out.deskB,HDP.out,HDB.out]
      have:=HA4.out.pT
      rcases HL4.out with h4 | h4
      ·cases b4 <;> simp <;> omega
      ·rw [h4];simp;omega
    ·have hqi:decide ((q:Int) < (s.T:Int))=false:=by simp;omega
     have HAN:Hid (∀ j,Ad s (.slice none 0 0) W3 q false k (wr.drewN j)):=fun j=>HAr.out.next (below_drewN (Below.refl _ _) j)
     go_wp2_with fail
     go_quiet (fail)
     go_wp2_with fail
     refine (put_at9 (HAN.out _) ⟨24,0,0,⟨#[]⟩,(m:Int)⟩ (by show (⟨#[]⟩:ByteArray).size≤1000;decide) (by omega)).mono ?_
     rintro e w5 ⟨rfl,a5⟩
     obtain ⟨hx5,hy5,hb5⟩:=HKX.out _ _ _ _ a5
     have HX5:=hid hx5
     have HY5:=hid hy5
     have HB5:=hid hb5
     obtain ⟨ov5,hd5,_⟩:=a5
     have d5:=hd5.cells.2.2.2.2
     obtain ⟨O,hO,hOx,_,hcase⟩:=hd5.sl
     have HOL:=hid hO
     have HOX:=hid hOx
     clear hx5 hy5 hb5 HAN c0 c2 c3 hO hOx hd5 HAr
     obtain ⟨g,cap,rfl,hnc,hgw,hrow⟩:=hcase.resolve_left (fun h=>by have:=h.2;omega)
     have HROW:=hid hrow
     clear hrow hcase
     have HAL:=hid ((Below.refl w5.heap.size w5).alloc (Nat.le_refl _) (.cells #[.slice (some ⟨g,0,none⟩) (k+1) cap] 25))
     have HT6:=hid (heap_alloc_new w5 (.cells #[.slice (some ⟨g,0,none⟩) (k+1) cap] 25))
     have HX6:=hid (hp_next HX5.out HAL.out)
     have HY6:=hid (hp_next HY5.out HAL.out)
     have HB6:=hid (HB5.out.trans (HAL.out.mono HB5.out.size))
     have HROW6:Hid (RowIn (w5.alloc (.cells #[.slice (some ⟨g,0,none⟩) (k+1) cap] 25)) g O):=HROW.out.keep (HAL.out.block g hgw)
     have htb6:tb < w5.heap.size:=(Array.getElem?_eq_some_iff.1 HX5.out).1
     have hfb6:fb < w5.heap.size:=(Array.getElem?_eq_some_iff.1 HY5.out).1
     go_upto_region 13 with fail
     obtain ⟨xt,hxt⟩:∃ g,w5.heap.size=g:=⟨_,rfl⟩
     obtain ⟨W6,hW6⟩:∃ W,w5.alloc (.cells #[.slice (some ⟨g,0,none⟩) (k+1) cap] 25)=W:=⟨_,rfl⟩
     have hg6:g < W6.heap.size:=by rw [← hW6];simp;omega
     rw [hW6] at HT6 HX6 HY6 HB6 HROW6 ⊢
     rw [hxt] at HT6 htb6 hfb6 ⊢
     clear hW6 hxt HAL HX5 HY5 HB5 HROW d5 hgw
     have x0:=cell_hp HT6.out 0
     simp at x0
     have HNA:Hid (NodesAt W6 g (k+1) (fun i=>O.getD i ⟨0,0,0,⟨#[]⟩,0⟩)):=fun i hi=>by
      have hi':i < O.length:=by rw [HOL.out];exact hi
      obtain ⟨h0,h1,h2,h3,h4⟩:=HROW6.out.cell i hi'
      have hd:O.getD i ⟨0,0,0,⟨#[]⟩,0⟩=O[i]:=by simp [List.getD,hi']
      dsimp only
      rw [hd]
      exact ⟨h0,h1,h2,h3,h4⟩
     have HVT:=hid (specValid_all g (k+1) cap (fun i=>O.getD i ⟨0,0,0,⟨#[]⟩,0⟩) W6 (by omega) hg6 HNA.out (fun i hi=>by
      have hi':i < O.length:=by rw [HOL.out];exact hi
      have hm:O.getD i ⟨0,0,0,⟨#[]⟩,0⟩ ∈ O:=by rw [List.getD_eq_getElem?_getD,List.getElem?_eq_getElem hi'];exact List.getElem_mem hi'
      have:=HOX.out _ hm
      unfold maxLen
      omega))
     go_wp2_with fail
     refine HVT.out.mono ?_
     rintro e w7 ⟨hsay,hb7⟩
     have HX7:=hid (hp_next HX6.out hb7)
     have HY7:=hid (hp_next HY6.out hb7)
     have HT7:=hid (hp_next HT6.out hb7)
     have HB7:=hid (HB6.out.trans (hb7.mono HB6.out.size))
     have HROW7:=hid (HROW6.out.keep (hb7.block g hg6))
     clear hb7 HX6 HY6 HT6 HB6 HROW6 HNA HVT x0
     have r0:=cell_hp HX7.out 0
     have y0:=cell_hp HY7.out 0
     have y1:=cell_hp HY7.out 1
     have x0:=cell_hp HT7.out 0
     have zr:=frozen_hp HX7.out 0
     have zy0:=frozen_hp HY7.out 0
     have zy1:=frozen_hp HY7.out 1
     simp at r0 y0 y1 x0
     have n1:xt≠tb:=by omega
     have n2:xt≠fb:=by omega
     have n3:tb≠xt:=by omega
     have n4:fb≠xt:=by omega
     have n5:fb≠tb:=fun e=>hne e.symm
     have HE:Hid (∀ k a b c,Below w.heap.size w ((((w7.drewN k).setCell ⟨tb,0,none⟩ a).setCell ⟨fb,0,none⟩ b).setCell ⟨fb,1,none⟩ c)):=fun k a b c=>three_below HB7.out htw hfw k _ _ _
     have HHAS:Hid (∀ j a b c,Has 2001 ((((w7.drewN j).setCell ⟨tb,0,none⟩ a).setCell ⟨fb,0,none⟩ b).setCell ⟨fb,1,none⟩ c) (.slice (some ⟨g,0,none⟩) (k+1) cap)):=fun j a b c=>by
      obtain ⟨cur,hcur,_⟩:=id HROW7.out
      have g1:g≠tb:=fun e=>by rw [e,HX7.out] at hcur;cases hcur
      have g2:g≠fb:=fun e=>by rw [e,HY7.out] at hcur;cases hcur
      have hr:RowIn ((((w7.drewN j).setCell ⟨tb,0,none⟩ a).setCell ⟨fb,0,none⟩ b).setCell ⟨fb,1,none⟩ c) g O:=by
       refine HROW7.out.keep ?_
       rw [Below.heap_setCell _ _ _ _ g2,Below.heap_setCell _ _ _ _ g2,Below.heap_setCell _ _ _ _ g1]
       rfl
      have hnd:=hr.nd (c:=cap) (fun e=>by have:=HOL.out;rw [e] at this;cases this) (by rw [HOL.out];exact hnc)
      rw [HOL.out] at hnd
      exact ⟨O,hnd,by rw [HOL.out];omega,HOX.out⟩
     by_cases hv:ValidT (fun i=>O.getD i ⟨0,0,0,⟨#[]⟩,0⟩) (k+1)
     ·obtain rfl:=hsay.pos hv
      clear hsay hv
      go_wp2
      first
      | exact bodyPost_ret (v:=.tuple #[.agg #[.slice (some ⟨g,0,none⟩) (k+1) cap],.agg #[.int .i64 0,.int .i64 0]]) (by simp [results,Tryz.results29,go_sem,r0,y0,y1]) rfl ⟨_,_,_,rfl,.inr (HHAS.out 0 _ _ _),HE.out 0 _ _ _⟩
      | exact bodyPost_ret (v:=.tuple #[.agg #[.slice (some ⟨g,0,none⟩) (k+1) cap],.agg #[.int .i64 0,.int .i64 0]]) (by simp [results,Tryz.results29,go_sem,r0,y0,y1]) rfl ⟨_,_,_,rfl,.inr (HHAS.out _ _ _ _),HE.out _ _ _ _⟩
     ·obtain rfl:=hsay.neg hv
      clear hsay hv
      go_wp2
      exact bodyPost_ret (v:=.tuple #[.agg #[.slice none 0 0],.agg #[.int .i64 7,.int .i64 0]]) (by simp [results,Tryz.results29,go_sem,r0,y0,y1]) rfl ⟨_,_,_,rfl,.inl ⟨_,_,rfl⟩,HE.out 0 _ _ _⟩
   ·have HAN:Hid (∀ j,Ad s (.slice none 0 0) W3 q true k (wr.drewN j)):=fun j=>HAr.out.next (below_drewN (Below.refl _ _) j)
    obtain ⟨hx5,hy5,hb5⟩:=HKX.out _ _ _ _ HAr.out
    obtain ⟨qa,c4⟩:∃ q:Int,wr.cell? ⟨s.D,4,none⟩=some (.int .i64 q):=by obtain ⟨ov,h1,_⟩:=HAr.out;exact h1.cell4
    have r0:=cell_hp hx5 0
    have y0:=cell_hp hy5 0
    have y1:=cell_hp hy5 1
    have zr:=frozen_hp hx5 0
    have zy0:=frozen_hp hy5 0
    have zy1:=frozen_hp hy5 1
    simp at r0 y0 y1
    have n1:s.D≠tb:=fun e=>HDW.out.1 e.symm
    have n2:s.D≠fb:=fun e=>HDW.out.2 e.symm
    have n5:fb≠tb:=fun e=>hne e.symm
    have HE:Hid (∀ k b c,Below w.heap.size w ((((wr.drewN k).setCell ⟨tb,0,none⟩ (.slice none 0 0)).setCell ⟨fb,0,none⟩ b).setCell ⟨fb,1,none⟩ c)):=fun k b c=>three_below hb5 htw hfw k _ _ _
    clear hx5 hy5 hb5
    go_wp2_with fail
    go_quiet (fail)
    go_wp2
    go_region
    all_goals
     go_wp2
     exact bodyPost_ret (v:=.tuple #[.agg #[.slice none 0 0],.agg #[.int .i64 6,.int .i64 qa]]) (by simp [results,Tryz.results29,go_sem,r0,y0,y1]) rfl ⟨_,_,_,rfl,.inl ⟨_,_,rfl⟩,HE.out _ _ _⟩
 ·have hc1:(ci != 0)=true:=by simpa using hc
  have n1:fx≠tb:=by omega
  have n2:fx≠fb:=by omega
  have n3:tb≠fx:=by omega
  have n4:fb≠fx:=by omega
  have n5:fb≠tb:=by omega
  have HE:Hid (∀ k b c,Below w.heap.size w ((((W2.drewN k).setCell ⟨tb,0,none⟩ (.slice none 0 0)).setCell ⟨fb,0,none⟩ b).setCell ⟨fb,1,none⟩ c)):=fun k b c=>three_below HB2.out htw hfw k _ _ _
  go_wp2
  go_region
  all_goals
   go_wp2
   exact bodyPost_ret (v:=.tuple #[.agg #[.slice none 0 0],.agg #[.int .i64 ci,.int .i64 ai]]) (by simp [results,Tryz.results29,go_sem,r0,y0,y1]) rfl ⟨_,_,_,rfl,.inl ⟨_,_,rfl⟩,HE.out _ _ _⟩
theorem TrIn.sl {K:Nat} {w:World} {v:Value} (h:TrIn K w v):∃ ad n c,v=.slice ad n c:=by
 rcases h with ⟨ad,c,e⟩ | h
 ·exact ⟨ad,0,c,e⟩
 ·obtain ⟨g,n,c,e⟩:=h.sl
  exact ⟨_,n,c,e⟩
theorem TrIn.next {K:Nat} {w w2:World} {v:Value} (h:TrIn K w v) (hb:Below w.heap.size w w2):TrIn K w2 v:=by
 rcases h with h | ⟨l,h1,h2⟩
 ·exact .inl h
 ·exact .inr ⟨l,h1.next hb,h2⟩
theorem spoil_tr (R p K:Nat) (v:Value) (w:World) (h:Rd R w p) (hp:p≤100000) (ht:TrIn K w v) (hK:K≤10000) :
  Calls Tryz.prog 32 #[.pointer (some ⟨R,0,none⟩),.agg #[v]] w (TrEnd R (K+1) (p+10) w):=by
 rcases ht with ⟨ad,c,rfl⟩ | hh
 ·refine (spoil_none R p ad c w h).mono ?_
  rintro e w2 ⟨v,rfl,⟨ad2,c2,rfl⟩,⟨p',h1,h2⟩,h3⟩
  exact ⟨_,rfl,.inl ⟨_,_,rfl⟩,⟨p',by omega,h2⟩,h3⟩
 ·obtain ⟨g,n,c,rfl⟩:=hh.sl
  exact spoil_any R p K g n c w h hp hh hK
theorem fin_box {R K P p rb:Nat} {w w2:World} {v:Value} (ht:TrIn K w2 v) (hr:Rd R w2 p) (hp:p≤P) (br:BR R w w2) (hb:w2.heap[rb]?=some (.cells #[.slice none 0 0] 25 (0,0))) (hrb:w.heap.size≤rb) (hR:R < w.heap.size):TrEnd R K P w (.returned (.agg #[v])) (w2.setCell ⟨rb,0,none⟩ v):=by
 refine ⟨v,rfl,?_,⟨p,hp,hr.sv (S:=fun k=>k=rb) (Sv.setCell (S:=fun k=>k=rb) (Sv.refl _ w2) (p:=⟨rb,0,none⟩) (.inl rfl) _) (fun k e=>by subst e;omega)⟩,br.set (by omega) hrb v⟩
 rcases ht with h | ⟨l,h1,h2⟩
 ·exact .inl h
 ·refine .inr ⟨l,h1.keep fun g cur hc=>Below.heap_setCell _ _ _ _ (fun e=>?_),h2⟩
  have e':g=rb:=e
  subst e'
  rw [hb] at hc
  cases hc
set_option maxHeartbeats 8000000 in
theorem any_at (R p:Nat) (w:World) (h:Rd R w p) (hp:p≤100) :
  Calls Tryz.prog 12 #[.pointer (some ⟨R,0,none⟩)] w (TrEnd R 3101 (p+50000) w):=by
 have HB0:=hid ((Below.refl w.heap.size w).alloc (Nat.le_refl _) (.cells #[.slice none 0 0] 25))
 have HBX:=hid (heap_alloc_new w (.cells #[.slice none 0 0] 25))
 have HR0:=hid (h.next HB0.out)
 have hRl:=h.lt
 clear h
 go_enter Tryz.func12,Tryz.ntmps12
 go_wp2_with fail
 refine (pick_any R p 30 _ (by omega) (by omega) HR0.out).mono ?_
 rintro e w1 ⟨⟨x,rfl,hx⟩,r1,s1⟩
 obtain ⟨rb,hrb⟩:∃ g,w.heap.size=g:=⟨_,rfl⟩
 have hb1:=(s1.block w.heap.size (by simp) (by show ¬ w.heap.size=R;omega)).trans HBX.out
 rw [hrb] at hb1 ⊢
 have hrw:w.heap.size≤rb:=by omega
 have hRr:R < rb:=by omega
 have HB1:=hid hb1
 have HBR1:Hid (BR R w w1):=(BR.of_below HB0.out (by omega)).trans (BR.of_sv s1 (by simp;omega))
 have HR1:=hid r1
 clear hb1 s1 r1 HR0 HB0 HBX hrb
 by_cases h26:26 < x
 ·have h26i:(26:Int) < (x:Int):=by omega
  go_wp2_with fail
  refine (l2Fixed_any _).mono ?_
  rintro e w2 ⟨rfl,hc2,hb2⟩
  have HR2:=hid (HR1.out.next hb2)
  have HB2:=hid (hp_next HB1.out hb2)
  have HBR2:=hid (HBR1.out.trans (BR.of_below hb2 (Nat.le_of_lt HR1.out.lt)))
  have hRw1:=HR1.out.lt
  have HC2:=hid hc2
  clear hb2 hc2 HR1 HB1 HBR1
  go_wp2_with fail
  refine (pick_any R (p+1) 15 _ (by omega) (by omega) HR2.out).mono ?_
  rintro e w3 ⟨⟨y,rfl,hy⟩,r3,s3⟩
  have hy15:y < 15:=by omega
  have hy15i:(y:Int) < 15:=by omega
  have hc3:=HC2.out y hy15
  have c3:=(s3.cell (p:=⟨w1.heap.size,y,none⟩) (World.block_lt_of_cell? w2 _ hc3) (by show ¬ w1.heap.size=R;omega)).trans hc3
  have HR3:=hid r3
  have HB3:=hid ((s3.block rb (Array.getElem?_eq_some_iff.1 HB2.out).1 (by show ¬ rb=R;omega)).trans HB2.out)
  have HBR3:=hid (HBR2.out.trans (BR.of_sv s3 (Nat.le_of_lt HR2.out.lt)))
  obtain ⟨gf,hgf⟩:∃ g,w1.heap.size=g:=⟨_,rfl⟩
  rw [hgf] at c3 ⊢
  clear hgf hc3 s3 r3 HC2 HR2 HB2 HBR2 hRw1 hy
  obtain ⟨f1,f2,f3⟩:=fix_ok y hy15
  obtain ⟨tx,htx⟩:∃ t,fixS y=t:=⟨_,rfl⟩
  rw [htx] at c3 f1 f2 f3
  have HPA:=hid (fun W=>parse_at tx W f1 f2 f3)
  clear htx f1 f2 f3
  go_wp2_with fail
  refine (HPA.out _).mono ?_
  rintro e w4 ⟨v4,cc,aa,rfl,ht4,hb4⟩
  obtain ⟨ad4,n4,c4,rfl⟩:=ht4.sl
  have HR4:=hid (HR3.out.next hb4)
  have HB4:=hid (hp_next HB3.out hb4)
  have HBR4:=hid (HBR3.out.trans (BR.of_below hb4 (Nat.le_of_lt HR3.out.lt)))
  have HT4:=hid ht4
  clear hb4 ht4 HR3 HB3 HBR3 HPA c3
  have HAL:=hid (((Below.refl w4.heap.size w4).alloc (Nat.le_refl _) (.cells #[.slice ad4 n4 c4] 25)).alloc (by simp) (.cells #[.int .i64 cc,.int .i64 aa] 37))
  have hX5:((w4.alloc (.cells #[.slice ad4 n4 c4] 25)).alloc (.cells #[.int .i64 cc,.int .i64 aa] 37)).heap[w4.heap.size]?=some (.cells #[.slice ad4 n4 c4] 25 (0,0)):=by
   rw [Below.heap_alloc _ _ _ (by simp)];exact heap_alloc_new w4 _
  have HX5:=hid hX5
  clear hX5
  go_upto_region 4 with fail
  obtain ⟨W5,hW5⟩:∃ W,(w4.alloc (.cells #[.slice ad4 n4 c4] 25)).alloc (.cells #[.int .i64 cc,.int .i64 aa] 37)=W:=⟨_,rfl⟩
  rw [hW5] at HAL HX5 ⊢
  obtain ⟨xt,hxt⟩:∃ g,w4.heap.size=g:=⟨_,rfl⟩
  have hb5:=hp_next HB4.out HAL.out
  have hr5:=HR4.out.next HAL.out
  have ht5:=HT4.out.next HAL.out
  have hbr5:=HBR4.out.trans (BR.of_below HAL.out (Nat.le_of_lt HR4.out.lt))
  rw [hxt] at HX5 ⊢
  have x0:=cell_hp HX5.out 0
  have r0:=cell_hp hb5 0
  have rf:=frozen_hp hb5 0
  simp at x0 r0
  have HE:=hid (fin_box (P:=p+50000) (ht5.mono (by omega):TrIn 3101 W5 (.slice ad4 n4 c4)) hr5 (by omega) hbr5 hb5 hrw hRl)
  clear hW5 hxt hb5 hr5 ht5 hbr5 HAL HX5 HB4 HR4 HT4 HBR4
  go_wp2
  exact bodyPost_ret (v:=.agg #[.slice ad4 n4 c4]) (by simp [results,Tryz.results12,go_sem,r0]) rfl HE.out
 ·have h26i:¬ (26:Int) < (x:Int):=by omega
  by_cases h0:x=0
  ·subst h0
   go_wp2_with fail
   refine (edge_any R (p+1) w1 HR1.out (by omega)).mono ?_
   rintro e w2 ⟨g,n,c,rfl,hl,⟨p2,hp2,hr2⟩,br⟩
   have hb2:=(br.tr rb _ hRr HB1.out).trans HB1.out
   have r0:=cell_hp hb2 0
   have rf:=frozen_hp hb2 0
   simp at r0
   have HE:=hid (fin_box (P:=p+50000) (TrIn.mono (.inr hl) (by omega):TrIn 3101 w2 (.slice (some ⟨g,0,none⟩) n c)) hr2 (by omega) (HBR1.out.trans br) hb2 hrw hRl)
   clear hl hr2 br hb2
   go_wp2
   exact bodyPost_ret (v:=.agg #[.slice (some ⟨g,0,none⟩) n c]) (by simp [results,Tryz.results12,go_sem,r0]) rfl HE.out
  ·have h0i:((x:Int) == 0)=false:=by simp;omega
   by_cases h4:x < 4
   ·have h4i:(x:Int) < 4:=by omega
    go_wp2_with fail
    refine (prog_any R (p+1) w1 HR1.out (by omega)).mono ?_
    rintro e w2 ⟨g,n,c,rfl,hl,⟨p2,hp2,hr2⟩,br⟩
    have HL2:=hid hl
    have HR2:=hid hr2
    have HBR2:=hid br
    clear hl hr2 br
    go_wp2_with fail
    refine (spoil_tr R p2 3100 _ w2 HR2.out (by omega) (.inr HL2.out) (by omega)).mono ?_
    rintro e w3 ⟨v3,rfl,ht3,⟨p3,hp3,hr3⟩,br3⟩
    obtain ⟨ad3,n3,c3,rfl⟩:=ht3.sl
    have hb2:=(HBR2.out.tr rb _ hRr HB1.out).trans HB1.out
    have hb3:=(br3.tr rb _ hRr hb2).trans hb2
    have r0:=cell_hp hb3 0
    have rf:=frozen_hp hb3 0
    simp at r0
    have HE:=hid (fin_box (P:=p+50000) (ht3.mono (by omega):TrIn 3101 w3 (.slice ad3 n3 c3)) hr3 (by omega) ((HBR1.out.trans HBR2.out).trans br3) hb3 hrw hRl)
    clear ht3 hr3 br3 hb2 hb3
    go_wp2
    exact bodyPost_ret (v:=.agg #[.slice ad3 n3 c3]) (by simp [results,Tryz.results12,go_sem,r0]) rfl HE.out
   ·have h4i:¬ (x:Int) < 4:=by omega
    go_wp2_with fail
    refine (prog_any R (p+1) w1 HR1.out (by omega)).mono ?_
    rintro e w2 ⟨g,n,c,rfl,hl,⟨p2,hp2,hr2⟩,br⟩
    have hb2:=(br.tr rb _ hRr HB1.out).trans HB1.out
    have r0:=cell_hp hb2 0
    have rf:=frozen_hp hb2 0
    simp at r0
    have HE:=hid (fin_box (P:=p+50000) (TrIn.mono (.inr hl) (by omega):TrIn 3101 w2 (.slice (some ⟨g,0,none⟩) n c)) hr2 (by omega) (HBR1.out.trans br) hb2 hrw hRl)
    clear hl hr2 br hb2
    go_wp2
    exact bodyPost_ret (v:=.agg #[.slice (some ⟨g,0,none⟩) n c]) (by simp [results,Tryz.results12,go_sem,r0]) rfl HE.out
def CodeA (w:World) (ad:Option Addr) (n:Nat):Prop:=n=0∨∃ a:Addr,ad=some a∧a.block < w.heap.size∧∀ i,i < n→∃ x:UInt8,w.cell? (a.add i)=some (.int .u8 x.toNat)
theorem CodeA.box {w:World} {ad:Option Addr} {n m:Nat} {o:Obj} (h:CodeA w ad n) (hm:m≤n):CodeIn w.heap.size (w.alloc o) ad m:=by
 rcases h with h | ⟨a,e,h1,h2⟩
 ·exact .inl (by omega)
 ·refine .inr ⟨a,e,h1,fun i hi=>?_⟩
  obtain ⟨x,hx⟩:=h2 i (by omega)
  exact ⟨x,(((Below.refl w.heap.size w).alloc (Nat.le_refl _) o).cell (p:=a.add i) (by rw [add_block];exact h1)).trans hx⟩
set_option maxHeartbeats 2000000 in
theorem l1Open_any (ad:Option Addr) (n cap:Nat) (w:World) (hn:n≤1048576) (hc:n≤cap) (hcm:cap≤9223372036854775807) (h:CodeA w ad n) (hnil:ad=none→n=0∧cap=0) :
  Calls Tryz.prog 11 #[.slice ad n cap] w fun e w'=>e=.returned (.pointer (some ⟨w.heap.size,0,none⟩))∧Rd w.heap.size w' 0∧Below w.heap.size w w':=by
 by_cases h2:n≤2000
 ·have HRD:Hid (Rd w.heap.size (w.alloc (.cells #[.slice ad n cap,.int .i64 0] 65)) 0):=⟨ad,n,cap,heap_alloc_new w _,h2,h.box (Nat.le_refl _)⟩
  clear h hnil
  go_enter Tryz.func11,Tryz.ntmps11
  go_wp2
  go_ret
  exact ⟨rfl,HRD.out,(Below.refl _ _).alloc (Nat.le_refl _) _⟩
 ·obtain ⟨a,rfl⟩:∃ a,ad=some a:=by
   cases ad with
   | none=>have:=(hnil rfl).1;omega
   | some a=>exact ⟨a,rfl⟩
  have HRD:Hid (Rd w.heap.size (w.alloc (.cells #[.slice (some a) 2000 cap,.int .i64 0] 65)) 0):=⟨_,2000,cap,heap_alloc_new w _,by omega,h.box (by omega)⟩
  have hn3:(2000:Int) < (n:Int):=by omega
  have hc3:(2000:Int)≤(cap:Int):=by omega
  clear h hnil
  go_enter Tryz.func11,Tryz.ntmps11
  go_wp2
  go_ret
  exact ⟨rfl,HRD.out,(Below.refl _ _).alloc (Nat.le_refl _) _⟩
theorem has_nodes9 {K g n c:Nat} {w:World} (h:Has K w (.slice (some ⟨g,0,none⟩) n c)):∃ nd:Nat→Nd,NodesAt w g n nd∧(∀ i,i < n→(nd i).text.size≤1000)∧n≤K∧1≤n∧g < w.heap.size∧n≤c:=by
 obtain ⟨l,h1,h2⟩:=h
 have h0:=h1.1
 obtain ⟨rfl,hc,hr⟩:=h1.row
 refine ⟨fun i=>l.getD i ⟨0,0,0,⟨#[]⟩,0⟩,fun i hi=>?_,fun i hi=>?_,h2.1,List.length_pos_iff.2 h0,hr.lt,hc⟩
 ·obtain ⟨a0,a1,a2,a3,a4⟩:=hr.cell i hi
  have hd:l.getD i ⟨0,0,0,⟨#[]⟩,0⟩=l[i]:=by simp [List.getD,hi]
  dsimp only
  rw [hd]
  exact ⟨a0,a1,a2,a3,a4⟩
 ·have hm:l.getD i ⟨0,0,0,⟨#[]⟩,0⟩ ∈ l:=by rw [List.getD_eq_getElem?_getD,List.getElem?_eq_getElem hi];exact List.getElem_mem hi
  exact h2.2 _ hm
theorem locals_tr {K n c:Nat} {ad:Option Addr} {w:World} (h:TrIn K w (.slice ad n c)) (hK:K≤10000) :
  Calls Tryz.prog 13 #[.agg #[.slice ad n c]] w fun e w'=>(∃ ad2 M c2 bn,e=.returned (.slice ad2 M c2)∧IntsA w' ad2 M bn∧M≤10000)∧Below w.heap.size w w':=by
 rcases h with ⟨ad',c',e⟩ | h
 ·cases e
  refine (specLocals_0 ad c w).mono ?_
  rintro e w' ⟨⟨ad2,c2,rfl⟩,hb⟩
  exact ⟨⟨ad2,0,c2,fun _=>0,rfl,.inl rfl,by omega⟩,hb⟩
 ·obtain ⟨g,n',c',e⟩:=h.sl
  cases e
  obtain ⟨nd,hnd,htx,hn,_,hg,_⟩:=has_nodes9 h
  refine (specLocals_any g n c nd w (by omega) hg hnd (fun i hi=>by have:=htx i hi;unfold maxLen;omega)).mono ?_
  rintro e w' ⟨⟨ad2,M,c2,bn,rfl,hi,_,hM,_⟩,hb⟩
  exact ⟨⟨ad2,M,c2,bn,rfl,hi,by omega⟩,hb⟩
def RnEnd (K:Nat) (w:World) (e:Ending) (w2:World):Prop:=∃ (v:Value) (at_:Int) (nm:ByteArray),e=.returned (.tuple #[.agg #[v],.int .i64 at_,.string nm])∧TrIn K w2 v∧nm.size≤1000∧Below w.heap.size w w2
theorem fin_ren {K rb:Nat} {w w2:World} {v:Value} (ht:TrIn K w2 v) (hb:Below w.heap.size w w2) (hx:w2.heap[rb]?=some (.cells #[.slice none 0 0] 25 (0,0))) (hrb:w.heap.size≤rb) (at_:Int) {nm:ByteArray} (hn:nm.size≤1000):RnEnd K w (.returned (.tuple #[.agg #[v],.int .i64 at_,.string nm])) (w2.setCell ⟨rb,0,none⟩ v):=by
 refine ⟨v,at_,nm,rfl,?_,hn,hb.setCell (p:=⟨rb,0,none⟩) hrb v⟩
 rcases ht with h | ⟨l,h1,h2⟩
 ·exact .inl h
 ·refine .inr ⟨l,h1.keep fun g cur hc=>Below.heap_setCell _ _ _ _ (fun e=>?_),h2⟩
  have e':g=rb:=e
  subst e'
  rw [hx] at hc
  cases hc
structure Dr9 (R rb xt:Nat) (P:Nat) (w:World) (v:Value) (wr:World):Prop where
 rd:∃ p,p≤P∧Rd R wr p
 xr:wr.heap[rb]?=some (.cells #[.slice none 0 0] 25 (0,0))
 xy:wr.heap[xt]?=some (.cells #[v] 25 (0,0))
 tr:TrIn 3101 wr v
 lo:Below w.heap.size w wr
 rr:rb < R∧R < xt
theorem Dr9.next {R rb xt P:Nat} {w wr w2:World} {v:Value} (h:Dr9 R rb xt P w v wr) (hb:Below wr.heap.size wr w2):Dr9 R rb xt P w v w2:=by
 obtain ⟨⟨p,h1,h2⟩,h3,h4,h5,h6,h7⟩:=h
 exact ⟨⟨p,h1,h2.next hb⟩,hp_next h3 hb,hp_next h4 hb,h5.next hb,h6.trans (hb.mono h6.size),h7⟩
theorem Dr9.pick {R rb xt P:Nat} {w wr:World} {v:Value} (h:Dr9 R rb xt P w v wr) (hP:P≤1000000) (hw:w.heap.size≤R) (n:Int) (hn:n≤1000000000) :
  Calls Tryz.prog 14 #[.pointer (some ⟨R,0,none⟩),.int .i64 n] wr fun e w2=>∃ x:Nat,e=.returned (.int .i64 x)∧(x=0∨(x:Int) < n)∧Dr9 R rb xt (P+1) w v w2∧Sv (fun k=>k=R) wr w2:=by
 obtain ⟨⟨p,h1,h2⟩,h3,h4,h5,h6,h7⟩:=h
 refine (pick_any R p n wr (by omega) hn h2).mono ?_
 rintro e w2 ⟨⟨x,rfl,hx⟩,r2,s2⟩
 refine ⟨x,rfl,hx,⟨⟨p+1,by omega,r2⟩,(s2.block rb (Array.getElem?_eq_some_iff.1 h3).1 (by show ¬ rb=R;omega)).trans h3,(s2.block xt (Array.getElem?_eq_some_iff.1 h4).1 (by show ¬ xt=R;omega)).trans h4,?_,h6.trans (s2.below h6.size (fun k e=>by subst e;exact hw)),h7⟩,s2⟩
 rcases h5 with h | ⟨l,g1,g2⟩
 ·exact .inl h
 ·refine .inr ⟨l,g1.keep fun g cur hc=>s2.block g (Array.getElem?_eq_some_iff.1 hc).1 (fun e=>?_),g2⟩
  have e':g=R:=e
  subst e'
  obtain ⟨ad9,m9,c9,h9,_⟩:=h2
  rw [h9] at hc
  cases hc
theorem Dr9.mono {R rb xt P Q:Nat} {w wr:World} {v:Value} (h:Dr9 R rb xt P w v wr) (hq:P≤Q):Dr9 R rb xt Q w v wr:=by
 obtain ⟨⟨p,h1,h2⟩,h3,h4,h5,h6,h7⟩:=h
 exact ⟨⟨p,by omega,h2⟩,h3,h4,h5,h6,h7⟩
theorem ints_at8 {W:World} {ad:Option Addr} {M i:Nat} {bn:Nat→Int} (h:IntsA W ad M bn) (hi:i < M):∃ g,ad=some ⟨g,0,none⟩∧W.cell? ⟨g,i,none⟩=some (.int .i64 (bn i)):=by
 rcases h with h | ⟨g,cur,rfl,h1,h2⟩
 ·omega
 ·exact ⟨g,rfl,(cell_hp h1 i).trans (h2 i hi)⟩
theorem many8 (x:Nat) (w:World) (h:x=0∨(x:Int) < 2):Calls Tryz.prog 15 #[.string ⟨#[110]⟩,.int .i64 (30+(x:Int))] w fun e w'=>(∃ t:ByteArray,e=.returned (.string t)∧t.size≤1000)∧w'=w:=by
 have e:30+(x:Int)=((30+x:Nat):Int):=by omega
 rw [e]
 exact l1Many_k ⟨#[110]⟩ (30+x) w (by show 1 * (30+x)≤1000;omega) (by omega) (by decide)
theorem RnEnd.next {K:Nat} {w w2 w3:World} {e:Ending} (h:RnEnd K w e w2) (hb:Below w2.heap.size w2 w3):RnEnd K w e w3:=by
 obtain ⟨v,a,nm,h1,h2,h3,h4⟩:=h
 exact ⟨v,a,nm,h1,h2.next hb,h3,h4.trans (hb.mono h4.size)⟩
theorem name9 (tm:ByteArray) (h:tm.size≤1000) (x:Nat) (hx:(x:Int) < 8):∃ y:ByteArray,y.size≤1000∧∀ W:World,(W.alloc (.cells #[(.string ⟨#[110,101,119,95,110,97,109,101]⟩),(.string ⟨#[110,101,119,95,110,97,109,101]⟩),(.string ⟨#[110,101,119,95,110,97,109,101]⟩),(.string ⟨#[110,49]⟩),(.string ⟨#[108,101,110]⟩),(.string ⟨#[108,101,116]⟩),(.string ⟨#[65]⟩),(.string tm)] 9)).cell? ⟨W.heap.size,x,none⟩=some (.string y):=by
 have h8:x=0∨x=1∨x=2∨x=3∨x=4∨x=5∨x=6∨x=7:=by omega
 rcases h8 with rfl | rfl | rfl | rfl | rfl | rfl | rfl | rfl
 ·exact ⟨_,by decide,fun W=>cell_new_row W _ _ 0⟩
 ·exact ⟨_,by decide,fun W=>cell_new_row W _ _ 1⟩
 ·exact ⟨_,by decide,fun W=>cell_new_row W _ _ 2⟩
 ·exact ⟨_,by decide,fun W=>cell_new_row W _ _ 3⟩
 ·exact ⟨_,by decide,fun W=>cell_new_row W _ _ 4⟩
 ·exact ⟨_,by decide,fun W=>cell_new_row W _ _ 5⟩
 ·exact ⟨_,by decide,fun W=>cell_new_row W _ _ 6⟩
 ·exact ⟨tm,h,fun W=>cell_new_row W _ _ 7⟩
theorem cell_set9 (W:World) (rb g x:Nat) (v:Value) (h:g≠rb):(W.setCell ⟨rb,0,none⟩ v).cell? ⟨g,x,none⟩=W.cell? ⟨g,x,none⟩:=by
 unfold World.cell?
 rw [Below.heap_setCell W ⟨rb,0,none⟩ v g h]
theorem size_set9 (W:World) (p:Addr) (v:Value):(W.setCell p v).heap.size=W.heap.size:=by unfold World.setCell;simp
theorem Dr9.fin {R rb xt P:Nat} {w wr:World} {ad:Option Addr} {n c:Nat} (h:Dr9 R rb xt P w (.slice ad n c) wr) (hrw:w.heap.size≤rb) (q:Int) {y:ByteArray} (hy:y.size≤1000) :
  RnEnd 3101 w (.returned (.tuple #[.agg #[.slice ad n c],.int .i64 q,.string y])) (wr.setCell ⟨rb,0,none⟩ (.slice ad n c))∧(wr.setCell ⟨rb,0,none⟩ (.slice ad n c)).cell? ⟨rb,0,none⟩=some (.slice ad n c)∧wr.cell? ⟨rb,0,none⟩=some (.slice none 0 0)∧wr.frozen? ⟨rb,0,none⟩=false :=
 ⟨fin_ren h.tr h.lo h.xr hrw q hy,cell_hp (set_at (i:=0) (.slice ad n c) h.xr) 0,cell_hp h.xr 0,frozen_hp h.xr 0⟩
theorem TrIn.len {K n c:Nat} {ad:Option Addr} {w:World} (h:TrIn K w (.slice ad n c)):n≤K:=by
 rcases h with ⟨ad',c',e⟩ | h
 ·cases e
  omega
 ·obtain ⟨g,n',c',e⟩:=h.sl
  cases e
  obtain ⟨_,_,_,hn,_⟩:=has_nodes9 h
  exact hn
theorem ints_pick {R p M:Nat} {w w2:World} {ad:Option Addr} {bn:Nat→Int} (h:IntsA w ad M bn) (hr:Rd R w p) (hs:Sv (fun k=>k=R) w w2):IntsA w2 ad M bn:=by
 rcases h with h | ⟨g,cur,rfl,h1,h2⟩
 ·exact .inl h
 ·refine .inr ⟨g,cur,rfl,(hs.block g (Array.getElem?_eq_some_iff.1 h1).1 (fun e=>?_)).trans h1,h2⟩
  have e':g=R:=e
  subst e'
  obtain ⟨_,_,_,h9,_⟩:=hr
  rw [h9] at h1
  cases h1
end Go.Proofs.YthnohneaanphbaaGreatDoor
