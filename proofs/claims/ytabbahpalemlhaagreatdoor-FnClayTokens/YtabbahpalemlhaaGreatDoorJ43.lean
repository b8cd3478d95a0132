import Derived.Deep.RegionHeld3
import Derived.Deep.DeepCutAuto
import Derived.Test.YtabbahpalemlhaaGreatDoorJ37
namespace Go.Proofs.YtabbahpalemlhaaGreatDoor
open Go.RowKit
set_option maxRecDepth 20000
def TrEnd (R K P:Nat) (w:World) (e:Ending) (w2:World):Prop:=∃ v,e=.returned (.agg #[v])∧TrIn K w2 v∧(∃ p',p'≤P∧Rd R w2 p')∧BR R w w2
theorem info_nd':(Tryz.prog.info? 81).map (fun i=>(i.zero,i.size,i.bytes))=some (some (.agg #[.int .i64 0,.int .i64 0,.int .i64 0,.string ⟨#[]⟩,.int .i64 0]),5,48):=by kernel_rfl
set_option maxHeartbeats 64000000 in
theorem spoil_any (R p K gt n ct:Nat) (w:World) (h:Rd R w p) (hp:p≤100000) (ht:Has K w (.slice (some ⟨gt,0,none⟩) n ct)) (hK:K≤10000) :
  Calls Tryz.prog 40 #[.pointer (some ⟨R,0,none⟩),.agg #[.slice (some ⟨gt,0,none⟩) n ct]] w (TrEnd R (K+1) (p+10) w):=by
 obtain ⟨i0,hi0,hz0,hz1,hz2⟩:=info_parts info_nd'
 have HHI:=hid (And.intro hi0 (And.intro hz0 (And.intro hz1 hz2)))
 clear hi0 hz0 hz1 hz2
 obtain ⟨l,hl1,hl2⟩:=ht
 obtain ⟨hn,hct,hrow⟩:=hl1.row
 have hl0:l≠[]:=hl1.1
 have HC:=hid (NdIn.cells hl1).2.2
 have hgt:gt < w.heap.size:=hrow.lt
 have HR:=hid h
 have HRW:=hid hrow
 have HOK:=hid hl2
 have hRw:=h.lt
 have hn1:1≤n:=by rw [hn];cases l with | nil=>exact absurd rfl hl0 | cons _ _=>simp
 have hnK:n≤K:=by rw [hn];exact hl2.1
 have HN:=hid hn
 have HL0:=hid hl0
 clear h hl1 hl2 hrow hn hl0
 have HAL:=hid ((((Below.refl w.heap.size w).alloc (Nat.le_refl _) (.cells #[.slice (some ⟨gt,0,none⟩) n ct] 50)).alloc (by simp) (.cells #[.slice none 0 0] 50)).alloc (by simp;omega) (.cells #[] 81))
 have HO:Hid (((((w.alloc (.cells #[.slice (some ⟨gt,0,none⟩) n ct] 50)).alloc (.cells #[.slice none 0 0] 50)).alloc (.cells #[] 81))).ownsRow (w.heap.size+2) 81 5 (.slice (some ⟨w.heap.size+2,0,none⟩) 0 0) 0 []):=by
  refine ⟨rfl,.inr ⟨w.heap.size+2,0,#[],rfl,Nat.le_refl _,?_,Nat.le_refl _,by unfold maxLen;omega,rfl,rfl⟩⟩
  have:=heap_alloc_new ((w.alloc (.cells #[.slice (some ⟨gt,0,none⟩) n ct] 50)).alloc (.cells #[.slice none 0 0] 50)) (.cells #[] 81)
  rwa [World.size_alloc,World.size_alloc] at this
 have HNW:Hid (∀ (j:Nat) u,(ndRow l)[j]?=some u→(((w.alloc (.cells #[.slice (some ⟨gt,0,none⟩) n ct] 50)).alloc (.cells #[.slice none 0 0] 50)).alloc (.cells #[] 81)).cell? ((⟨gt,0,none⟩:Addr).add j)=some u):=fun j u hu=>(HAL.out.cell (p:=(⟨gt,0,none⟩:Addr).add j) (by rw [add_none];exact hgt)).trans (HC.out j u hu)
 go_enter Tryz.func40,Tryz.ntmps40
 go_wp2_with (at_builtin;refine wpList_append_own _ rfl _ _ 48 rfl (w.heap.size+2) 81 i0 (.agg #[.int .i64 0,.int .i64 0,.int .i64 0,.string ⟨#[]⟩,.int .i64 0]) 5 48 Tryz.underlying48 HHI.out.1 HHI.out.2.1 HHI.out.2.2.1 HHI.out.2.2.2 rfl (by decide) _ _ [] rfl HO.out ⟨gt,0,none⟩ n ct (ndRow l) rfl ?c0 HNW.out (ndRow_one l) ?c3 ?c4 ?c5 ?_)
 case c0=>rw [ndRow_length,HN.out]
 case c3=>unfold maxLen;omega
 case c4=>omega
 case c5=>simp
 intro v1 w1 o1 g1 _
 have hst:∃ g cap,v1=.slice (some ⟨g,0,none⟩) n cap∧SI R w.heap.size (w.heap.size+1) w1.heap.size gt g ct cap p w l l (w1.alloc (.cells #[.slice (some ⟨g,0,none⟩) n cap] 50)):=by
  have hn:=HN.out
  subst hn
  exact SI.start HR.out HRW.out HL0.out hct g1 (by simpa using o1)
 obtain ⟨g,cap,rfl,hs⟩:=hst
 have HS2:=hid hs
 clear hs o1 g1 HO HNW HAL HC HRW HR
 go_upto_region 2 with fail
 obtain ⟨tb,htb⟩:∃ x,w.heap.size=x:=⟨_,rfl⟩
 have HTB:=hid htb
 obtain ⟨ob,hob⟩:∃ x,w1.heap.size=x:=⟨_,rfl⟩
 obtain ⟨W2,hW2⟩:∃ W,w1.alloc (.cells #[.slice (some ⟨g,0,none⟩) n cap] 50)=W:=⟨_,rfl⟩
 rw [hW2] at HS2 ⊢
 rw [hob] at HS2 ⊢
 rw [htb] at HS2 ⊢
 clear hW2 hob htb
 have y0:=cell_hp HS2.out.xo 0
 simp at y0
 rw [← HN.out] at y0
 have hn0:((n:Int) == 0)=false:=by simp;omega
 go_wp2_with fail
 refine (HS2.out.pick (by omega) 256 (by omega)).mono ?_
 rintro e w3 ⟨x3,rfl,hx3,d3,_⟩
 have HS3:=hid d3
 clear d3 HS2 y0
 have hm3:IntKind.i64.wrap ((x3:Int) * 256)=(x3:Int) * 256:=by rw [IntKind.wrap_i64];omega
 go_wp2_with fail
 refine (HS3.out.pick (by omega) 256 (by omega)).mono ?_
 rintro e w4 ⟨x4,rfl,hx4,d4,_⟩
 have HS4:=hid d4
 clear d4 HS3
 have hm4:IntKind.i64.wrap ((x3:Int) * 256+x4)=(x3:Int) * 256+x4:=by rw [IntKind.wrap_i64];omega
 obtain ⟨k,hk⟩:∃ k,(x3 * 256+x4) % n=k:=⟨_,rfl⟩
 have hkn:k < n:=by rw [← hk];exact Nat.mod_lt _ (by omega)
 have hrem:((x3:Int) * 256+x4).tmod (n:Int)=(k:Int):=by
  rw [Int.tmod_eq_emod_of_nonneg (by omega),← hk,Int.natCast_emod]
  simp
 have y0:=cell_hp HS4.out.xo 0
 simp at y0
 rw [← HN.out] at y0
 have hkl:k < l.length:=by rw [← HN.out];exact hkn
 obtain ⟨c0,c1,c2,c3,c4⟩:=HS4.out.ro.cell k hkl
 have htx:l[k].text.size≤1000:=HOK.out.2 _ (List.getElem_mem hkl)
 obtain ⟨x,hx⟩:∃ x,l[k]=x:=⟨_,rfl⟩
 rw [hx] at c0 c1 c2 c3 c4 htx
 have hki:(k:Int) < (n:Int):=by omega
 clear hk hx3 hx4
 go_upto_region 7 with fail
 have HS5:=hid (HS4.out.next ((Below.refl w4.heap.size w4).alloc (Nat.le_refl _) (.cells #[.int .i64 x.kind,.int .i64 x.op,.int .i64 x.n,.string x.text,.int .i64 x.kids] 81)))
 have HX5:=hid (heap_alloc_new w4 (.cells #[.int .i64 x.kind,.int .i64 x.op,.int .i64 x.n,.string x.text,.int .i64 x.kids] 81))
 have hxa:w.heap.size≤w4.heap.size∧w4.heap.size≠tb∧w4.heap.size≠tb+1∧w4.heap.size≠ob∧w4.heap.size≠g:=by
  have e1:=(Array.getElem?_eq_some_iff.1 HS4.out.xt).1
  have e2:=(Array.getElem?_eq_some_iff.1 HS4.out.xr).1
  have e3:=(Array.getElem?_eq_some_iff.1 HS4.out.xo).1
  have e4:=HS4.out.ro.lt
  have e5:=HS4.out.sv.size
  omega
 obtain ⟨xb,hxb⟩:∃ y,w4.heap.size=y:=⟨_,rfl⟩
 obtain ⟨W5,hW5⟩:∃ W,w4.alloc (.cells #[.int .i64 x.kind,.int .i64 x.op,.int .i64 x.n,.string x.text,.int .i64 x.kids] 81)=W:=⟨_,rfl⟩
 rw [hW5] at HS5 HX5 ⊢
 rw [hxb] at HX5 hxa ⊢
 clear hW5 hxb c0 c1 c2 c3 c4 y0 HS4 hrem hm3 hm4 hx
 go_wp2_with fail
 refine (HS5.out.pick (by omega) 10 (by omega)).mono ?_
 rintro e w6 ⟨x6,rfl,hx6,d6,s6⟩
 have HS6:=hid d6
 have hxR:xb≠R:=by have:=HS5.out.lt;omega
 have HX6:=hid ((s6.block xb (Array.getElem?_eq_some_iff.1 HX5.out).1 (by show ¬ xb=R;exact hxR)).trans HX5.out)
 clear d6 s6 HS5 HX5
 have hx9:x6=0∨x6=1∨x6=2∨x6=3∨x6=4∨x6=5∨x6=6∨x6=7∨x6=8∨x6=9:=by omega
 clear hx6
 rcases hx9 with rfl | rfl | rfl | rfl | rfl | rfl | rfl | rfl | rfl | rfl
 ·go_wp2_with fail
  refine (HS6.out.pick (by omega) 27 (by omega)).mono ?_
  rintro e w7 ⟨x7,rfl,hx7,d7,s7⟩
  have hw7:IntKind.i64.wrap ((x7:Int) - 1)=(x7:Int) - 1:=by rw [IntKind.wrap_i64];omega
  have HX7:=hid ((s7.block xb (Array.getElem?_eq_some_iff.1 HX6.out).1 (by show ¬ xb=R;exact hxR)).trans HX6.out)
  have HS8:=hid (d7.boxed (b:=xb) (i:=0) (.int .i64 ((x7:Int) - 1)) hxa.1 hxa.2)
  have p0:=(five_at HX7.out).1
  have pf:=frozen_hp HX7.out 0
  obtain ⟨yy,hyd⟩:∃ yy:Nd,({ x with kind:=(x7:Int) - 1 }:Nd)=yy:=⟨_,rfl⟩
  have hyy:yy.text.size≤1000:=by rw [← hyd];exact htx
  have HX8:Hid ((w7.setCell ⟨xb,0,none⟩ (.int .i64 ((x7:Int) - 1))).heap[xb]?=some (.cells #[.int .i64 (yy).kind,.int .i64 (yy).op,.int .i64 (yy).n,.string (yy).text,.int .i64 (yy).kids] 81 (0,0))):=by
   show _=_
   rw [← hyd,set_at (i:=0) _ HX7.out]
   rfl
  clear d7 s7 HS6 HX6 hx7 hyd
  go_upto_region 40 with fail
  obtain ⟨W8,hW8⟩:∃ W,w7.setCell ⟨xb,0,none⟩ (.int .i64 ((x7:Int) - 1))=W:=⟨_,rfl⟩
  rw [hW8] at HS8 HX8 ⊢
  clear hW8
  have HP9:=hid (HS8.out.put k hkl yy)
  obtain ⟨c0,c1,c2,c3,c4⟩:=HS8.out.ro.cell k hkl
  have f0:=HS8.out.ro.frozen (k * 5)
  have f1:=HS8.out.ro.frozen (k * 5+1)
  have f2:=HS8.out.ro.frozen (k * 5+2)
  have f3:=HS8.out.ro.frozen (k * 5+3)
  have f4:=HS8.out.ro.frozen (k * 5+4)
  obtain ⟨p0,p1,p2,p3,p4⟩:=five_at HX8.out
  have y0:=cell_hp HS8.out.xo 0
  simp at y0
  rw [← HN.out] at y0
  go_upto_region 41 with fail
  obtain ⟨W9,hW9⟩:∃ W,((((W8.setCell ⟨g,k * 5,none⟩ (.int .i64 yy.kind)).setCell ⟨g,k * 5+1,none⟩ (.int .i64 yy.op)).setCell ⟨g,k * 5+2,none⟩ (.int .i64 yy.n)).setCell ⟨g,k * 5+3,none⟩ (.string yy.text)).setCell ⟨g,k * 5+4,none⟩ (.int .i64 yy.kids)=W:=⟨_,rfl⟩
  rw [hW9] at HP9 ⊢
  clear hW9 c0 c1 c2 c3 c4 f0 f1 f2 f3 f4 p0 p1 p2 p3 p4 y0 HS8 HX8
  have y0:=cell_hp HP9.out.xo 0
  have r0:=cell_hp HP9.out.xr 0
  have rf:=frozen_hp HP9.out.xr 0
  simp at y0 r0
  rw [← HN.out] at y0
  have hne9:l.set k yy≠[]:=fun e=>by
   have:=congrArg List.length e
   simp at this
   exact HL0.out this
  have HFN:=hid (HP9.out.fin (HOK.out.set k yy hyy) hne9)
  have HLL:Hid ((l.set k yy).length=n):=by show _=_;rw [List.length_set,HN.out]
  rw [HLL.out] at HFN
  go_wp2
  refine bodyPost_ret (v:=.agg #[.slice (some ⟨g,0,none⟩) n cap]) (by simp [results,Tryz.results40,go_sem,r0]) rfl ⟨_,rfl,.inr ?_,?_,HFN.out.2.2⟩
  ·obtain ⟨ll,h1,h2⟩:=HFN.out.1
   exact ⟨ll,h1,h2.mono (by omega)⟩
  ·obtain ⟨p9,h1,h2⟩:=HFN.out.2.1
   exact ⟨p9,by omega,h2⟩
 ·have HSD:=hid (HS6.out.next (Below.refl w6.heap.size w6).drew)
  have HXD:=hid (hp_next HX6.out (Below.refl w6.heap.size w6).drew)
  have q0:=(five_at HXD.out).2.1
  have q1:=(five_at HX6.out).2.1
  have qf:=frozen_hp HX6.out 1
  go_wp2_with fail
  go_region_law (refine step_enter rfl (f:=8) (vals:=#[.pointer (some ⟨R,0,none⟩),.int .i64 5]) (by kernel_rfl) (HSD.out.pick (by omega) 5 (by omega)) ?_;intro e w7 hq7;obtain ⟨x7,rfl,hx7,d7,s7⟩:=hq7;refine ⟨_,rfl,?_⟩;have HS7:=hid d7;have HX7:=hid ((s7.block xb (Array.getElem?_eq_some_iff.1 HXD.out).1 (by show ¬ xb=R;exact hxR)).trans HXD.out);have p1:=(five_at HX7.out).2.1;have p2:=frozen_hp HX7.out 1;clear d7 s7 hx7)
  all_goals
   have HS8:=hid (HS7.out.boxed (b:=xb) (i:=1) (.int .i64 (IntKind.i64.wrap (IntKind.i64.wrap (x.op+(x7:Int)) - 2))) hxa.1 hxa.2)
   have pf:=frozen_hp HX7.out 1
   obtain ⟨yy,hyd⟩:∃ yy:Nd,({ x with op:=IntKind.i64.wrap (IntKind.i64.wrap (x.op+(x7:Int)) - 2) }:Nd)=yy:=⟨_,rfl⟩
   have hyy:yy.text.size≤1000:=by rw [← hyd];first | exact htx | exact htt
   have HX8:Hid ((w7.setCell ⟨xb,1,none⟩ (.int .i64 (IntKind.i64.wrap (IntKind.i64.wrap (x.op+(x7:Int)) - 2)))).heap[xb]?=some (.cells #[.int .i64 (yy).kind,.int .i64 (yy).op,.int .i64 (yy).n,.string (yy).text,.int .i64 (yy).kids] 81 (0,0))):=by
    show _=_
    rw [← hyd,set_at (i:=1) _ HX7.out]
    rfl
   clear hyd
   clear HS6 HX6 HSD HXD q0 q1 qf
   go_upto_region 40 with fail
   obtain ⟨W8,hW8⟩:∃ W,w7.setCell ⟨xb,1,none⟩ (.int .i64 (IntKind.i64.wrap (IntKind.i64.wrap (x.op+(x7:Int)) - 2)))=W:=⟨_,rfl⟩
   rw [hW8] at HS8 HX8 ⊢
   clear hW8
   have HP9:=hid (HS8.out.put k hkl yy)
   obtain ⟨c0,c1,c2,c3,c4⟩:=HS8.out.ro.cell k hkl
   have f0:=HS8.out.ro.frozen (k * 5)
   have f1:=HS8.out.ro.frozen (k * 5+1)
   have f2:=HS8.out.ro.frozen (k * 5+2)
   have f3:=HS8.out.ro.frozen (k * 5+3)
   have f4:=HS8.out.ro.frozen (k * 5+4)
   obtain ⟨p0,p1,p2,p3,p4⟩:=five_at HX8.out
   have y0:=cell_hp HS8.out.xo 0
   simp at y0
   rw [← HN.out] at y0
   go_upto_region 41 with fail
   obtain ⟨W9,hW9⟩:∃ W,((((W8.setCell ⟨g,k * 5,none⟩ (.int .i64 yy.kind)).setCell ⟨g,k * 5+1,none⟩ (.int .i64 yy.op)).setCell ⟨g,k * 5+2,none⟩ (.int .i64 yy.n)).setCell ⟨g,k * 5+3,none⟩ (.string yy.text)).setCell ⟨g,k * 5+4,none⟩ (.int .i64 yy.kids)=W:=⟨_,rfl⟩
   rw [hW9] at HP9 ⊢
   clear hW9 c0 c1 c2 c3 c4 f0 f1 f2 f3 f4 p0 p1 p2 p3 p4 y0 HS8 HX8
   have y0:=cell_hp HP9.out.xo 0
   have r0:=cell_hp HP9.out.xr 0
   have rf:=frozen_hp HP9.out.xr 0
   simp at y0 r0
   rw [← HN.out] at y0
   have hne9:l.set k yy≠[]:=fun e=>by
    have:=congrArg List.length e
    simp at this
    exact HL0.out this
   have HFN:=hid (HP9.out.fin (HOK.out.set k yy hyy) hne9)
   have HLL:Hid ((l.set k yy).length=n):=by show _=_;rw [List.length_set,HN.out]
   rw [HLL.out] at HFN
   go_wp2
   refine bodyPost_ret (v:=.agg #[.slice (some ⟨g,0,none⟩) n cap]) (by simp [results,Tryz.results40,go_sem,r0]) rfl ⟨_,rfl,.inr ?_,?_,HFN.out.2.2⟩
   ·obtain ⟨ll,h1,h2⟩:=HFN.out.1
    exact ⟨ll,h1,h2.mono (by omega)⟩
   ·obtain ⟨p9,h1,h2⟩:=HFN.out.2.1
    exact ⟨p9,by omega,h2⟩
 ·have HSA:=hid (HS6.out.next ((Below.refl w6.heap.size w6).alloc (Nat.le_refl _) (.cells #[.int .i64 (-1),.int .i64 0,.int .i64 1,.int .i64 2] 2)))
  have HXA:=hid (hp_next HX6.out ((Below.refl w6.heap.size w6).alloc (Nat.le_refl _) (.cells #[.int .i64 (-1),.int .i64 0,.int .i64 1,.int .i64 2] 2)))
  go_wp2_with fail
  refine (HSA.out.pick (by omega) 4 (by omega)).mono ?_
  rintro e w7 ⟨x7,rfl,hx7,d7,s7⟩
  have HS7:=hid d7
  have HX7:=hid ((s7.block xb (Array.getElem?_eq_some_iff.1 HXA.out).1 (by show ¬ xb=R;exact hxR)).trans HXA.out)
  have hRl:=HS6.out.lt
  have hsz:=HS6.out.sv.size
  obtain ⟨y7,hy7⟩:∃ y:Int,w7.cell? ⟨w6.heap.size,x7,none⟩=some (.int .i64 y):=by
   have e1:=s7.cell (p:=⟨w6.heap.size,x7,none⟩) (by simp) (by show ¬ w6.heap.size=R;omega)
   rw [e1,cell_new_row]
   have h7:x7=0∨x7=1∨x7=2∨x7=3:=by omega
   rcases h7 with rfl | rfl | rfl | rfl <;> exact ⟨_,rfl⟩
  have hx7i:(x7:Int) < 4:=by omega
  have p2:=(five_at HX7.out).2.2.1
  have HS8:=hid (HS7.out.boxed (b:=xb) (i:=2) (.int .i64 (y7)) hxa.1 hxa.2)
  have pf:=frozen_hp HX7.out 2
  obtain ⟨yy,hyd⟩:∃ yy:Nd,({ x with n:=y7 }:Nd)=yy:=⟨_,rfl⟩
  have hyy:yy.text.size≤1000:=by rw [← hyd];first | exact htx | exact htt
  have HX8:Hid ((w7.setCell ⟨xb,2,none⟩ (.int .i64 (y7))).heap[xb]?=some (.cells #[.int .i64 (yy).kind,.int .i64 (yy).op,.int .i64 (yy).n,.string (yy).text,.int .i64 (yy).kids] 81 (0,0))):=by
   show _=_
   rw [← hyd,set_at (i:=2) _ HX7.out]
   rfl
  clear hyd
  clear d7 s7 HS6 HX6 HSA HXA hx7
  go_upto_region 40 with fail
  obtain ⟨W8,hW8⟩:∃ W,w7.setCell ⟨xb,2,none⟩ (.int .i64 (y7))=W:=⟨_,rfl⟩
  rw [hW8] at HS8 HX8 ⊢
  clear hW8
  have HP9:=hid (HS8.out.put k hkl yy)
  obtain ⟨c0,c1,c2,c3,c4⟩:=HS8.out.ro.cell k hkl
  have f0:=HS8.out.ro.frozen (k * 5)
  have f1:=HS8.out.ro.frozen (k * 5+1)
  have f2:=HS8.out.ro.frozen (k * 5+2)
  have f3:=HS8.out.ro.frozen (k * 5+3)
  have f4:=HS8.out.ro.frozen (k * 5+4)
  obtain ⟨p0,p1,p2,p3,p4⟩:=five_at HX8.out
  have y0:=cell_hp HS8.out.xo 0
  simp at y0
  rw [← HN.out] at y0
  go_upto_region 41 with fail
  obtain ⟨W9,hW9⟩:∃ W,((((W8.setCell ⟨g,k * 5,none⟩ (.int .i64 yy.kind)).setCell ⟨g,k * 5+1,none⟩ (.int .i64 yy.op)).setCell ⟨g,k * 5+2,none⟩ (.int .i64 yy.n)).setCell ⟨g,k * 5+3,none⟩ (.string yy.text)).setCell ⟨g,k * 5+4,none⟩ (.int .i64 yy.kids)=W:=⟨_,rfl⟩
  rw [hW9] at HP9 ⊢
  clear hW9 c0 c1 c2 c3 c4 f0 f1 f2 f3 f4 p0 p1 p2 p3 p4 y0 HS8 HX8
  have y0:=cell_hp HP9.out.xo 0
  have r0:=cell_hp HP9.out.xr 0
  have rf:=frozen_hp HP9.out.xr 0
  simp at y0 r0
  rw [← HN.out] at y0
  have hne9:l.set k yy≠[]:=fun e=>by
   have:=congrArg List.length e
   simp at this
   exact HL0.out this
  have HFN:=hid (HP9.out.fin (HOK.out.set k yy hyy) hne9)
  have HLL:Hid ((l.set k yy).length=n):=by show _=_;rw [List.length_set,HN.out]
  rw [HLL.out] at HFN
  go_wp2
  refine bodyPost_ret (v:=.agg #[.slice (some ⟨g,0,none⟩) n cap]) (by simp [results,Tryz.results40,go_sem,r0]) rfl ⟨_,rfl,.inr ?_,?_,HFN.out.2.2⟩
  ·obtain ⟨ll,h1,h2⟩:=HFN.out.1
   exact ⟨ll,h1,h2.mono (by omega)⟩
  ·obtain ⟨p9,h1,h2⟩:=HFN.out.2.1
   exact ⟨p9,by omega,h2⟩
 ·go_wp2_with fail
  refine (l1Many_k ⟨#[110]⟩ 31 _ (by decide) (by decide) (by decide)).mono ?_
  rintro e wm ⟨⟨tm,rfl,htm⟩,rfl⟩
  have HSA:=hid (HS6.out.next ((Below.refl wm.heap.size wm).alloc (Nat.le_refl _) (.cells #[(.string ⟨#[]⟩),(.string ⟨#[110,49]⟩),(.string ⟨#[112,48]⟩),(.string ⟨#[115,48]⟩),(.string ⟨#[102,48]⟩),(.string ⟨#[108,101,116]⟩),(.string ⟨#[57,120]⟩),(.string ⟨#[65]⟩),(.string ⟨#[108,101,110]⟩),(.string tm)] 9)))
  have HXA:=hid (hp_next HX6.out ((Below.refl wm.heap.size wm).alloc (Nat.le_refl _) (.cells #[(.string ⟨#[]⟩),(.string ⟨#[110,49]⟩),(.string ⟨#[112,48]⟩),(.string ⟨#[115,48]⟩),(.string ⟨#[102,48]⟩),(.string ⟨#[108,101,116]⟩),(.string ⟨#[57,120]⟩),(.string ⟨#[65]⟩),(.string ⟨#[108,101,110]⟩),(.string tm)] 9)))
  go_wp2_with fail
  refine (HSA.out.pick (by omega) 10 (by omega)).mono ?_
  rintro e w7 ⟨x7,rfl,hx7,d7,s7⟩
  have HS7:=hid d7
  have HX7:=hid ((s7.block xb (Array.getElem?_eq_some_iff.1 HXA.out).1 (by show ¬ xb=R;exact hxR)).trans HXA.out)
  have hRl:=HS6.out.lt
  have hsz:=HS6.out.sv.size
  obtain ⟨y7,hy7,htt⟩:∃ y:ByteArray,w7.cell? ⟨wm.heap.size,x7,none⟩=some (.string y)∧y.size≤1000:=by
   have e1:=s7.cell (p:=⟨wm.heap.size,x7,none⟩) (by simp) (by show ¬ wm.heap.size=R;omega)
   rw [e1,cell_new_row]
   have h7:x7=0∨x7=1∨x7=2∨x7=3∨x7=4∨x7=5∨x7=6∨x7=7∨x7=8∨x7=9:=by omega
   rcases h7 with rfl | rfl | rfl | rfl | rfl | rfl | rfl | rfl | rfl | rfl <;> first | exact ⟨_,rfl,htm⟩ | exact ⟨_,rfl,by decide⟩
  have hx7i:(x7:Int) < 10:=by omega
  have p3:=(five_at HX7.out).2.2.2.1
  have HS8:=hid (HS7.out.boxed (b:=xb) (i:=3) (.string (y7)) hxa.1 hxa.2)
  have pf:=frozen_hp HX7.out 3
  obtain ⟨yy,hyd⟩:∃ yy:Nd,({ x with text:=y7 }:Nd)=yy:=⟨_,rfl⟩
  have hyy:yy.text.size≤1000:=by rw [← hyd];first | exact htx | exact htt
  have HX8:Hid ((w7.setCell ⟨xb,3,none⟩ (.string (y7))).heap[xb]?=some (.cells #[.int .i64 (yy).kind,.int .i64 (yy).op,.int .i64 (yy).n,.string (yy).text,.int .i64 (yy).kids] 81 (0,0))):=by
   show _=_
   rw [← hyd,set_at (i:=3) _ HX7.out]
   rfl
  clear hyd
  clear d7 s7 HS6 HX6 HSA HXA hx7
  go_upto_region 40 with fail
  obtain ⟨W8,hW8⟩:∃ W,w7.setCell ⟨xb,3,none⟩ (.string (y7))=W:=⟨_,rfl⟩
  rw [hW8] at HS8 HX8 ⊢
  clear hW8
  have HP9:=hid (HS8.out.put k hkl yy)
  obtain ⟨c0,c1,c2,c3,c4⟩:=HS8.out.ro.cell k hkl
  have f0:=HS8.out.ro.frozen (k * 5)
  have f1:=HS8.out.ro.frozen (k * 5+1)
  have f2:=HS8.out.ro.frozen (k * 5+2)
  have f3:=HS8.out.ro.frozen (k * 5+3)
  have f4:=HS8.out.ro.frozen (k * 5+4)
  obtain ⟨p0,p1,p2,p3,p4⟩:=five_at HX8.out
  have y0:=cell_hp HS8.out.xo 0
  simp at y0
  rw [← HN.out] at y0
  go_upto_region 41 with fail
  obtain ⟨W9,hW9⟩:∃ W,((((W8.setCell ⟨g,k * 5,none⟩ (.int .i64 yy.kind)).setCell ⟨g,k * 5+1,none⟩ (.int .i64 yy.op)).setCell ⟨g,k * 5+2,none⟩ (.int .i64 yy.n)).setCell ⟨g,k * 5+3,none⟩ (.string yy.text)).setCell ⟨g,k * 5+4,none⟩ (.int .i64 yy.kids)=W:=⟨_,rfl⟩
  rw [hW9] at HP9 ⊢
  clear hW9 c0 c1 c2 c3 c4 f0 f1 f2 f3 f4 p0 p1 p2 p3 p4 y0 HS8 HX8
  have y0:=cell_hp HP9.out.xo 0
  have r0:=cell_hp HP9.out.xr 0
  have rf:=frozen_hp HP9.out.xr 0
  simp at y0 r0
  rw [← HN.out] at y0
  have hne9:l.set k yy≠[]:=fun e=>by
   have:=congrArg List.length e
   simp at this
   exact HL0.out this
  have HFN:=hid (HP9.out.fin (HOK.out.set k yy hyy) hne9)
  have HLL:Hid ((l.set k yy).length=n):=by show _=_;rw [List.length_set,HN.out]
  rw [HLL.out] at HFN
  go_wp2
  refine bodyPost_ret (v:=.agg #[.slice (some ⟨g,0,none⟩) n cap]) (by simp [results,Tryz.results40,go_sem,r0]) rfl ⟨_,rfl,.inr ?_,?_,HFN.out.2.2⟩
  ·obtain ⟨ll,h1,h2⟩:=HFN.out.1
   exact ⟨ll,h1,h2.mono (by omega)⟩
  ·obtain ⟨p9,h1,h2⟩:=HFN.out.2.1
   exact ⟨p9,by omega,h2⟩
 ·have HSD:=hid (HS6.out.next (Below.refl w6.heap.size w6).drew)
  have HXD:=hid (hp_next HX6.out (Below.refl w6.heap.size w6).drew)
  have q0:=(five_at HXD.out).2.2.2.2
  have q1:=(five_at HX6.out).2.2.2.2
  have qf:=frozen_hp HX6.out 4
  go_wp2_with fail
  go_region_law (refine step_enter rfl (f:=8) (vals:=#[.pointer (some ⟨R,0,none⟩),.int .i64 3]) (by kernel_rfl) (HSD.out.pick (by omega) 3 (by omega)) ?_;intro e w7 hq7;obtain ⟨x7,rfl,hx7,d7,s7⟩:=hq7;refine ⟨_,rfl,?_⟩;have HS7:=hid d7;have HX7:=hid ((s7.block xb (Array.getElem?_eq_some_iff.1 HXD.out).1 (by show ¬ xb=R;exact hxR)).trans HXD.out);have p1:=(five_at HX7.out).2.2.2.2;have p2:=frozen_hp HX7.out 4;clear d7 s7 hx7)
  all_goals
   have HS8:=hid (HS7.out.boxed (b:=xb) (i:=4) (.int .i64 (IntKind.i64.wrap (IntKind.i64.wrap (x.kids+(x7:Int)) - 1))) hxa.1 hxa.2)
   have pf:=frozen_hp HX7.out 4
   obtain ⟨yy,hyd⟩:∃ yy:Nd,({ x with kids:=IntKind.i64.wrap (IntKind.i64.wrap (x.kids+(x7:Int)) - 1) }:Nd)=yy:=⟨_,rfl⟩
   have hyy:yy.text.size≤1000:=by rw [← hyd];first | exact htx | exact htt
   have HX8:Hid ((w7.setCell ⟨xb,4,none⟩ (.int .i64 (IntKind.i64.wrap (IntKind.i64.wrap (x.kids+(x7:Int)) - 1)))).heap[xb]?=some (.cells #[.int .i64 (yy).kind,.int .i64 (yy).op,.int .i64 (yy).n,.string (yy).text,.int .i64 (yy).kids] 81 (0,0))):=by
    show _=_
    rw [← hyd,set_at (i:=4) _ HX7.out]
    rfl
   clear hyd
   clear HS6 HX6 HSD HXD q0 q1 qf
   go_upto_region 40 with fail
   obtain ⟨W8,hW8⟩:∃ W,w7.setCell ⟨xb,4,none⟩ (.int .i64 (IntKind.i64.wrap (IntKind.i64.wrap (x.kids+(x7:Int)) - 1)))=W:=⟨_,rfl⟩
   rw [hW8] at HS8 HX8 ⊢
   clear hW8
   have HP9:=hid (HS8.out.put k hkl yy)
   obtain ⟨c0,c1,c2,c3,c4⟩:=HS8.out.ro.cell k hkl
   have f0:=HS8.out.ro.frozen (k * 5)
   have f1:=HS8.out.ro.frozen (k * 5+1)
   have f2:=HS8.out.ro.frozen (k * 5+2)
   have f3:=HS8.out.ro.frozen (k * 5+3)
   have f4:=HS8.out.ro.frozen (k * 5+4)
   obtain ⟨p0,p1,p2,p3,p4⟩:=five_at HX8.out
   have y0:=cell_hp HS8.out.xo 0
   simp at y0
   rw [← HN.out] at y0
   go_upto_region 41 with fail
   obtain ⟨W9,hW9⟩:∃ W,((((W8.setCell ⟨g,k * 5,none⟩ (.int .i64 yy.kind)).setCell ⟨g,k * 5+1,none⟩ (.int .i64 yy.op)).setCell ⟨g,k * 5+2,none⟩ (.int .i64 yy.n)).setCell ⟨g,k * 5+3,none⟩ (.string yy.text)).setCell ⟨g,k * 5+4,none⟩ (.int .i64 yy.kids)=W:=⟨_,rfl⟩
   rw [hW9] at HP9 ⊢
   clear hW9 c0 c1 c2 c3 c4 f0 f1 f2 f3 f4 p0 p1 p2 p3 p4 y0 HS8 HX8
   have y0:=cell_hp HP9.out.xo 0
   have r0:=cell_hp HP9.out.xr 0
   have rf:=frozen_hp HP9.out.xr 0
   simp at y0 r0
   rw [← HN.out] at y0
   have hne9:l.set k yy≠[]:=fun e=>by
    have:=congrArg List.length e
    simp at this
    exact HL0.out this
   have HFN:=hid (HP9.out.fin (HOK.out.set k yy hyy) hne9)
   have HLL:Hid ((l.set k yy).length=n):=by show _=_;rw [List.length_set,HN.out]
   rw [HLL.out] at HFN
   go_wp2
   refine bodyPost_ret (v:=.agg #[.slice (some ⟨g,0,none⟩) n cap]) (by simp [results,Tryz.results40,go_sem,r0]) rfl ⟨_,rfl,.inr ?_,?_,HFN.out.2.2⟩
   ·obtain ⟨ll,h1,h2⟩:=HFN.out.1
    exact ⟨ll,h1,h2.mono (by omega)⟩
   ·obtain ⟨p9,h1,h2⟩:=HFN.out.2.1
    exact ⟨p9,by omega,h2⟩
 ·have HGO:Hid (∀ W:World,W.heap[ob]?=some (.cells #[.slice (some ⟨g,0,none⟩) l.length cap] 50 (0,0))→W.cell? ⟨ob,0,none⟩=some (.slice (some ⟨g,0,none⟩) n cap)):=fun W h=>by
   rw [HN.out]
   exact cell_hp h 0
  go_wp2_with fail
  go_loopw [9,10] (fun i _ wr=>∃ t:Nat,t≤n∧i=.int .i64 t∧SI R tb (tb+1) ob gt g ct cap (p+1+1+1) w l l wr∧wr.heap[xb]?=some (.cells #[.int .i64 (x).kind,.int .i64 (x).op,.int .i64 (x).n,.string (x).text,.int .i64 (x).kids] 81 (0,0))) (fun i _ _=>n - (intOf i).toNat)
  case atStart=>exact ⟨0,Nat.zero_le _,rfl,HS6.out,HX6.out⟩
  case round =>
   obtain ⟨t,ht,rfl,hs,hx⟩:=hrel
   have HSR:=hid hs
   have HXR:=hid hx
   clear hs hx HS6 HX6
   by_cases hlt:t < n
   ·have hti:(t:Int) < (n:Int):=by omega
    obtain ⟨j,hj⟩:∃ j,(k+t) % n=j:=⟨_,rfl⟩
    have hjn:j < n:=by rw [← hj];exact Nat.mod_lt _ (by omega)
    have hjw:IntKind.i64.wrap ((k:Int)+t)=(k:Int)+t:=by rw [IntKind.wrap_i64];omega
    have hrem:((k:Int)+t).tmod (n:Int)=(j:Int):=by
     rw [Int.tmod_eq_emod_of_nonneg (by omega),← hj,Int.natCast_emod]
     simp
    have hjl:j < l.length:=by rw [← HN.out];exact hjn
    have hji:(j:Int) < (n:Int):=by omega
    have htw:IntKind.i64.wrap ((t:Int)+1)=(t:Int)+1:=by rw [IntKind.wrap_i64];omega
    obtain ⟨c0,c1,c2,c3,c4⟩:=HSR.out.ro.cell j hjl
    obtain ⟨y,hy⟩:∃ y,l[j]=y:=⟨_,rfl⟩
    have HY:=hid hy
    rw [hy] at c0 c1 c2 c3 c4
    have y0:=HGO.out _ HSR.out.xo
    clear hj hy
    go_upto_region 27 with fail
    go_cut [133] (fun b wx=>(∃ bb:Bool,b=.bool bb)∧wx=wr)
    case first =>
     by_cases e1:y.kind=5
     ·go_wp2_with fail
      go_meet
      case rel=>exact ⟨⟨_,rfl⟩,rfl⟩
     ·by_cases e2:y.kind=14
      ·go_wp2_with fail
       go_meet
       case rel=>exact ⟨⟨_,rfl⟩,rfl⟩
      ·go_wp2_with fail
       refine (l1In_b _ _ _ _).mono ?_
       rintro e w7 ⟨⟨b,rfl⟩,hw7⟩
       have hw8:=hw7.symm
       clear hw7
       subst hw8
       go_wp2_with fail
       go_meet
       case rel=>exact ⟨⟨_,rfl⟩,rfl⟩
    case rest =>
     obtain ⟨⟨bb,rfl⟩,hwc⟩:=hcut
     subst hwc
     cases bb
     ·go_wp2
      go_roundw
      case rel=>exact ⟨t+1,by omega,by go_num,HSR.out,HXR.out⟩
      case measure=>simp [intOf];omega
     ·go_upto_region 28 with fail
      go_cut [] (fun wx=>∃ yy:Nd,yy.text.size≤1000∧SI R tb (tb+1) ob gt g ct cap (p+1+1+1+1) w l (l.set j yy) wx)
      case first =>
       have HSD:=hid (HSR.out.next (Below.refl _ _).drew)
       have HSA:=hid (HSR.out.next ((Below.refl _ _).alloc (Nat.le_refl _) (.cells #[(.string ⟨#[110,49]⟩),(.string ⟨#[110,50]⟩),(.string ⟨#[112,48]⟩),(.string ⟨#[112,49]⟩),(.string ⟨#[115,48]⟩),(.string ⟨#[115,49]⟩),(.string ⟨#[102,48]⟩),(.string ⟨#[110,111,110,101,95,115,117,99,104]⟩)] 9)).drew)
       have yd:=HGO.out _ HSD.out.xo
       have ya:=HGO.out _ HSA.out.xo
       clear c0 c1 c2 c3 c4
       have HRL:Hid (∀ (W:World),SI R tb (tb+1) ob gt g ct cap (p+1+1+1) w l l W→W.heap.size≠R):=fun W h=>by
        have h1:=h.lt
        have h2:=h.sv.size
        show _≠_
        omega
       have HA1:Hid (∀ (W w7:World) (x7:Nat),(x7=0∨(x7:Int) < 8)→W.heap.size≠R→Sv (fun k=>k=R) (W.alloc (.cells #[(.string ⟨#[110,49]⟩),(.string ⟨#[110,50]⟩),(.string ⟨#[112,48]⟩),(.string ⟨#[112,49]⟩),(.string ⟨#[115,48]⟩),(.string ⟨#[115,49]⟩),(.string ⟨#[102,48]⟩),(.string ⟨#[110,111,110,101,95,115,117,99,104]⟩)] 9)).drew w7→∃ y:ByteArray,w7.cell? ⟨W.heap.size,x7,none⟩=some (.string y)∧y.size≤1000):=by
        intro W w7 x7 hx7 hne s7
        have e1:=s7.cell (p:=⟨W.heap.size,x7,none⟩) (by simp) hne
        have e2:(W.alloc (.cells #[(.string ⟨#[110,49]⟩),(.string ⟨#[110,50]⟩),(.string ⟨#[112,48]⟩),(.string ⟨#[112,49]⟩),(.string ⟨#[115,48]⟩),(.string ⟨#[115,49]⟩),(.string ⟨#[102,48]⟩),(.string ⟨#[110,111,110,101,95,115,117,99,104]⟩)] 9)).drew.cell? ⟨W.heap.size,x7,none⟩=(W.alloc (.cells #[(.string ⟨#[110,49]⟩),(.string ⟨#[110,50]⟩),(.string ⟨#[112,48]⟩),(.string ⟨#[112,49]⟩),(.string ⟨#[115,48]⟩),(.string ⟨#[115,49]⟩),(.string ⟨#[102,48]⟩),(.string ⟨#[110,111,110,101,95,115,117,99,104]⟩)] 9)).cell? ⟨W.heap.size,x7,none⟩:=rfl
        rw [e1,e2,cell_new_row]
        have h7:x7=0∨x7=1∨x7=2∨x7=3∨x7=4∨x7=5∨x7=6∨x7=7:=by omega
        rcases h7 with rfl | rfl | rfl | rfl | rfl | rfl | rfl | rfl <;> exact ⟨_,rfl,by decide⟩
       have HA2:Hid (∀ (W:World) (x7:Nat),(x7=0∨(x7:Int) < 8)→∃ y:ByteArray,(W.alloc (.cells #[(.string ⟨#[110,49]⟩),(.string ⟨#[110,50]⟩),(.string ⟨#[112,48]⟩),(.string ⟨#[112,49]⟩),(.string ⟨#[115,48]⟩),(.string ⟨#[115,49]⟩),(.string ⟨#[102,48]⟩),(.string ⟨#[110,111,110,101,95,115,117,99,104]⟩)] 9)).cell? ⟨W.heap.size,x7,none⟩=some (.string y)∧y.size≤1000):=by
        intro W x7 hx7
        rw [cell_new_row]
        have h7:x7=0∨x7=1∨x7=2∨x7=3∨x7=4∨x7=5∨x7=6∨x7=7:=by omega
        rcases h7 with rfl | rfl | rfl | rfl | rfl | rfl | rfl | rfl <;> exact ⟨_,rfl,by decide⟩
       go_wp2_with fail
       go_region_law (first
        | (refine step_enter rfl (f:=8) (vals:=#[.pointer (some ⟨R,0,none⟩),.int .i64 8]) (by kernel_rfl) (HSD.out.pick (by omega) 8 (by omega)) ?_;intro e w7 hq7;obtain ⟨x7,rfl,hx7,d7,s7⟩:=hq7;refine ⟨_,rfl,?_⟩;have hx7i:(x7:Int) < 8:=(by omega);have hq:=HA2.out w7 x7 hx7;obtain ⟨ty,hty1,hty2⟩:=hq;have HS8:=hid (d7.next ((Below.refl w7.heap.size w7).alloc (Nat.le_refl _) (.cells #[(.string ⟨#[110,49]⟩),(.string ⟨#[110,50]⟩),(.string ⟨#[112,48]⟩),(.string ⟨#[112,49]⟩),(.string ⟨#[115,48]⟩),(.string ⟨#[115,49]⟩),(.string ⟨#[102,48]⟩),(.string ⟨#[110,111,110,101,95,115,117,99,104]⟩)] 9)));have HT8:=hid (HS8.out.set1 j 3 hjl (by decide) (.string ty) { y with text:=ty } (by rw [HY.out];rfl));have y7:=HGO.out _ d7.xo;have y8:=HGO.out _ HS8.out.xo;have hc:=HS8.out.ro.cell j hjl;obtain ⟨_,_,_,c3,_⟩:=hc;have f3:=HS8.out.ro.frozen (j * 5+3);clear d7 s7 hx7)
        | (refine step_enter rfl (f:=8) (vals:=#[.pointer (some ⟨R,0,none⟩),.int .i64 8]) (by kernel_rfl) (HSA.out.pick (by omega) 8 (by omega)) ?_;intro e w7 hq7;obtain ⟨x7,rfl,hx7,d7,s7⟩:=hq7;refine ⟨_,rfl,?_⟩;have hx7i:(x7:Int) < 8:=(by omega);have hq:=HA1.out _ w7 x7 hx7 (HRL.out _ HSR.out) s7;obtain ⟨ty,hty1,hty2⟩:=hq;have HT8:=hid (d7.set1 j 3 hjl (by decide) (.string ty) { y with text:=ty } (by rw [HY.out];rfl));have y7:=HGO.out _ d7.xo;have hc:=d7.ro.cell j hjl;obtain ⟨_,_,_,c3,_⟩:=hc;have f3:=d7.ro.frozen (j * 5+3);clear d7 s7 hx7))
       all_goals (go_wp2_with fail;go_meet;(case rel=>exact ⟨{ y with text:=ty },hty2,HT8.out⟩))
      case rest =>
       obtain ⟨yy,hyy,ht8⟩:=hcut
       have HT8:=hid ht8
       clear ht8 HSR HXR y0
       have y0:=cell_hp HT8.out.xo 0
       have r0:=cell_hp HT8.out.xr 0
       have rf:=frozen_hp HT8.out.xr 0
       simp at y0 r0
       rw [← HN.out] at y0
       have hne9:l.set j yy≠[]:=fun e=>by
        have:=congrArg List.length e
        simp at this
        exact HL0.out this
       have HFN:=hid (HT8.out.fin (HOK.out.set j yy hyy) hne9)
       have HLL:Hid ((l.set j yy).length=n):=by show _=_;rw [List.length_set,HN.out]
       rw [HLL.out] at HFN
       go_wp2
       refine bodyPost_ret (v:=.agg #[.slice (some ⟨g,0,none⟩) n cap]) (by simp [results,Tryz.results40,go_sem,r0]) rfl ⟨_,rfl,.inr ?_,?_,HFN.out.2.2⟩
       ·obtain ⟨ll,h1,h2⟩:=HFN.out.1
        exact ⟨ll,h1,h2.mono (by omega)⟩
       ·obtain ⟨p9,h1,h2⟩:=HFN.out.2.1
        exact ⟨p9,by omega,h2⟩
   ·have hti:¬ (t:Int) < (n:Int):=by omega
    go_upto_region 40 with fail
    obtain ⟨yy,hyd⟩:∃ yy:Nd,x=yy:=⟨_,rfl⟩
    have hyy:yy.text.size≤1000:=by rw [← hyd];exact htx
    have HS8:=HSR
    have HX8:=HXR
    rw [hyd] at HX8
    clear hyd HSR HXR
    obtain ⟨W8,hW8⟩:∃ W,wr=W:=⟨_,rfl⟩
    rw [hW8] at HS8 HX8 ⊢
    clear hW8
    have HP9:=hid (HS8.out.put k hkl yy)
    obtain ⟨c0,c1,c2,c3,c4⟩:=HS8.out.ro.cell k hkl
    have f0:=HS8.out.ro.frozen (k * 5)
    have f1:=HS8.out.ro.frozen (k * 5+1)
    have f2:=HS8.out.ro.frozen (k * 5+2)
    have f3:=HS8.out.ro.frozen (k * 5+3)
    have f4:=HS8.out.ro.frozen (k * 5+4)
    obtain ⟨p0,p1,p2,p3,p4⟩:=five_at HX8.out
    have y0:=cell_hp HS8.out.xo 0
    simp at y0
    rw [← HN.out] at y0
    go_upto_region 41 with fail
    obtain ⟨W9,hW9⟩:∃ W,((((W8.setCell ⟨g,k * 5,none⟩ (.int .i64 yy.kind)).setCell ⟨g,k * 5+1,none⟩ (.int .i64 yy.op)).setCell ⟨g,k * 5+2,none⟩ (.int .i64 yy.n)).setCell ⟨g,k * 5+3,none⟩ (.string yy.text)).setCell ⟨g,k * 5+4,none⟩ (.int .i64 yy.kids)=W:=⟨_,rfl⟩
    rw [hW9] at HP9 ⊢
    clear hW9 c0 c1 c2 c3 c4 f0 f1 f2 f3 f4 p0 p1 p2 p3 p4 y0 HS8 HX8
    have y0:=cell_hp HP9.out.xo 0
    have r0:=cell_hp HP9.out.xr 0
    have rf:=frozen_hp HP9.out.xr 0
    simp at y0 r0
    rw [← HN.out] at y0
    have hne9:l.set k yy≠[]:=fun e=>by
     have:=congrArg List.length e
     simp at this
     exact HL0.out this
    have HFN:=hid (HP9.out.fin (HOK.out.set k yy hyy) hne9)
    have HLL:Hid ((l.set k yy).length=n):=by show _=_;rw [List.length_set,HN.out]
    rw [HLL.out] at HFN
    go_wp2
    refine bodyPost_ret (v:=.agg #[.slice (some ⟨g,0,none⟩) n cap]) (by simp [results,Tryz.results40,go_sem,r0]) rfl ⟨_,rfl,.inr ?_,?_,HFN.out.2.2⟩
    ·obtain ⟨ll,h1,h2⟩:=HFN.out.1
     exact ⟨ll,h1,h2.mono (by omega)⟩
    ·obtain ⟨p9,h1,h2⟩:=HFN.out.2.1
     exact ⟨p9,by omega,h2⟩
 ·have HGO:Hid (∀ W:World,W.heap[ob]?=some (.cells #[.slice (some ⟨g,0,none⟩) l.length cap] 50 (0,0))→W.cell? ⟨ob,0,none⟩=some (.slice (some ⟨g,0,none⟩) n cap)):=fun W h=>by
   rw [HN.out]
   exact cell_hp h 0
  go_wp2_with fail
  go_loopw [9,10] (fun i _ wr=>∃ t:Nat,t≤n∧i=.int .i64 t∧SI R tb (tb+1) ob gt g ct cap (p+1+1+1) w l l wr∧wr.heap[xb]?=some (.cells #[.int .i64 (x).kind,.int .i64 (x).op,.int .i64 (x).n,.string (x).text,.int .i64 (x).kids] 81 (0,0))) (fun i _ _=>n - (intOf i).toNat)
  case atStart=>exact ⟨0,Nat.zero_le _,rfl,HS6.out,HX6.out⟩
  case round =>
   obtain ⟨t,ht,rfl,hs,hx⟩:=hrel
   have HSR:=hid hs
   have HXR:=hid hx
   clear hs hx HS6 HX6
   by_cases hlt:t < n
   ·have hti:(t:Int) < (n:Int):=by omega
    obtain ⟨j,hj⟩:∃ j,(k+t) % n=j:=⟨_,rfl⟩
    have hjn:j < n:=by rw [← hj];exact Nat.mod_lt _ (by omega)
    have hjw:IntKind.i64.wrap ((k:Int)+t)=(k:Int)+t:=by rw [IntKind.wrap_i64];omega
    have hrem:((k:Int)+t).tmod (n:Int)=(j:Int):=by
     rw [Int.tmod_eq_emod_of_nonneg (by omega),← hj,Int.natCast_emod]
     simp
    have hjl:j < l.length:=by rw [← HN.out];exact hjn
    have hji:(j:Int) < (n:Int):=by omega
    have htw:IntKind.i64.wrap ((t:Int)+1)=(t:Int)+1:=by rw [IntKind.wrap_i64];omega
    obtain ⟨c0,c1,c2,c3,c4⟩:=HSR.out.ro.cell j hjl
    obtain ⟨y,hy⟩:∃ y,l[j]=y:=⟨_,rfl⟩
    have HY:=hid hy
    rw [hy] at c0 c1 c2 c3 c4
    have y0:=HGO.out _ HSR.out.xo
    clear hj hy
    go_upto_region 27 with fail
    go_cut [133] (fun b wx=>(∃ bb:Bool,b=.bool bb)∧wx=wr)
    case first =>
     by_cases e1:y.kind=5
     ·go_wp2_with fail
      go_meet
      case rel=>exact ⟨⟨_,rfl⟩,rfl⟩
     ·by_cases e2:y.kind=14
      ·go_wp2_with fail
       go_meet
       case rel=>exact ⟨⟨_,rfl⟩,rfl⟩
      ·go_wp2_with fail
       refine (l1In_b _ _ _ _).mono ?_
       rintro e w7 ⟨⟨b,rfl⟩,hw7⟩
       have hw8:=hw7.symm
       clear hw7
       subst hw8
       go_wp2_with fail
       go_meet
       case rel=>exact ⟨⟨_,rfl⟩,rfl⟩
    case rest =>
     obtain ⟨⟨bb,rfl⟩,hwc⟩:=hcut
     subst hwc
     cases bb
     ·go_wp2
      go_roundw
      case rel=>exact ⟨t+1,by omega,by go_num,HSR.out,HXR.out⟩
      case measure=>simp [intOf];omega
     ·go_upto_region 28 with fail
      go_cut [] (fun wx=>∃ yy:Nd,yy.text.size≤1000∧SI R tb (tb+1) ob gt g ct cap (p+1+1+1+1) w l (l.set j yy) wx)
      case first =>
       have HSD:=hid (HSR.out.next (Below.refl _ _).drew)
       have HSA:=hid (HSR.out.next ((Below.refl _ _).alloc (Nat.le_refl _) (.cells #[(.string ⟨#[110,49]⟩),(.string ⟨#[110,50]⟩),(.string ⟨#[112,48]⟩),(.string ⟨#[112,49]⟩),(.string ⟨#[115,48]⟩),(.string ⟨#[115,49]⟩),(.string ⟨#[102,48]⟩),(.string ⟨#[110,111,110,101,95,115,117,99,104]⟩)] 9)).drew)
       have yd:=HGO.out _ HSD.out.xo
       have ya:=HGO.out _ HSA.out.xo
       clear c0 c1 c2 c3 c4
       have HRL:Hid (∀ (W:World),SI R tb (tb+1) ob gt g ct cap (p+1+1+1) w l l W→W.heap.size≠R):=fun W h=>by
        have h1:=h.lt
        have h2:=h.sv.size
        show _≠_
        omega
       have HA1:Hid (∀ (W w7:World) (x7:Nat),(x7=0∨(x7:Int) < 8)→W.heap.size≠R→Sv (fun k=>k=R) (W.alloc (.cells #[(.string ⟨#[110,49]⟩),(.string ⟨#[110,50]⟩),(.string ⟨#[112,48]⟩),(.string ⟨#[112,49]⟩),(.string ⟨#[115,48]⟩),(.string ⟨#[115,49]⟩),(.string ⟨#[102,48]⟩),(.string ⟨#[110,111,110,101,95,115,117,99,104]⟩)] 9)).drew w7→∃ y:ByteArray,w7.cell? ⟨W.heap.size,x7,none⟩=some (.string y)∧y.size≤1000):=by
        intro W w7 x7 hx7 hne s7
        have e1:=s7.cell (p:=⟨W.heap.size,x7,none⟩) (by simp) hne
        have e2:(W.alloc (.cells #[(.string ⟨#[110,49]⟩),(.string ⟨#[110,50]⟩),(.string ⟨#[112,48]⟩),(.string ⟨#[112,49]⟩),(.string ⟨#[115,48]⟩),(.string ⟨#[115,49]⟩),(.string ⟨#[102,48]⟩),(.string ⟨#[110,111,110,101,95,115,117,99,104]⟩)] 9)).drew.cell? ⟨W.heap.size,x7,none⟩=(W.alloc (.cells #[(.string ⟨#[110,49]⟩),(.string ⟨#[110,50]⟩),(.string ⟨#[112,48]⟩),(.string ⟨#[112,49]⟩),(.string ⟨#[115,48]⟩),(.string ⟨#[115,49]⟩),(.string ⟨#[102,48]⟩),(.string ⟨#[110,111,110,101,95,115,117,99,104]⟩)] 9)).cell? ⟨W.heap.size,x7,none⟩:=rfl
        rw [e1,e2,cell_new_row]
        have h7:x7=0∨x7=1∨x7=2∨x7=3∨x7=4∨x7=5∨x7=6∨x7=7:=by omega
        rcases h7 with rfl | rfl | rfl | rfl | rfl | rfl | rfl | rfl <;> exact ⟨_,rfl,by decide⟩
       have HA2:Hid (∀ (W:World) (x7:Nat),(x7=0∨(x7:Int) < 8)→∃ y:ByteArray,(W.alloc (.cells #[(.string ⟨#[110,49]⟩),(.string ⟨#[110,50]⟩),(.string ⟨#[112,48]⟩),(.string ⟨#[112,49]⟩),(.string ⟨#[115,48]⟩),(.string ⟨#[115,49]⟩),(.string ⟨#[102,48]⟩),(.string ⟨#[110,111,110,101,95,115,117,99,104]⟩)] 9)).cell? ⟨W.heap.size,x7,none⟩=some (.string y)∧y.size≤1000):=by
        intro W x7 hx7
        rw [cell_new_row]
        have h7:x7=0∨x7=1∨x7=2∨x7=3∨x7=4∨x7=5∨x7=6∨x7=7:=by omega
        rcases h7 with rfl | rfl | rfl | rfl | rfl | rfl | rfl | rfl <;> exact ⟨_,rfl,by decide⟩
       go_wp2_with fail
       go_region_law (first
        | (refine step_enter rfl (f:=8) (vals:=#[.pointer (some ⟨R,0,none⟩),.int .i64 8]) (by kernel_rfl) (HSD.out.pick (by omega) 8 (by omega)) ?_;intro e w7 hq7;obtain ⟨x7,rfl,hx7,d7,s7⟩:=hq7;refine ⟨_,rfl,?_⟩;have hx7i:(x7:Int) < 8:=(by omega);have hq:=HA2.out w7 x7 hx7;obtain ⟨ty,hty1,hty2⟩:=hq;have HS8:=hid (d7.next ((Below.refl w7.heap.size w7).alloc (Nat.le_refl _) (.cells #[(.string ⟨#[110,49]⟩),(.string ⟨#[110,50]⟩),(.string ⟨#[112,48]⟩),(.string ⟨#[112,49]⟩),(.string ⟨#[115,48]⟩),(.string ⟨#[115,49]⟩),(.string ⟨#[102,48]⟩),(.string ⟨#[110,111,110,101,95,115,117,99,104]⟩)] 9)));have HT8:=hid (HS8.out.set1 j 3 hjl (by decide) (.string ty) { y with text:=ty } (by rw [HY.out];rfl));have y7:=HGO.out _ d7.xo;have y8:=HGO.out _ HS8.out.xo;have hc:=HS8.out.ro.cell j hjl;obtain ⟨_,_,_,c3,_⟩:=hc;have f3:=HS8.out.ro.frozen (j * 5+3);clear d7 s7 hx7)
        | (refine step_enter rfl (f:=8) (vals:=#[.pointer (some ⟨R,0,none⟩),.int .i64 8]) (by kernel_rfl) (HSA.out.pick (by omega) 8 (by omega)) ?_;intro e w7 hq7;obtain ⟨x7,rfl,hx7,d7,s7⟩:=hq7;refine ⟨_,rfl,?_⟩;have hx7i:(x7:Int) < 8:=(by omega);have hq:=HA1.out _ w7 x7 hx7 (HRL.out _ HSR.out) s7;obtain ⟨ty,hty1,hty2⟩:=hq;have HT8:=hid (d7.set1 j 3 hjl (by decide) (.string ty) { y with text:=ty } (by rw [HY.out];rfl));have y7:=HGO.out _ d7.xo;have hc:=d7.ro.cell j hjl;obtain ⟨_,_,_,c3,_⟩:=hc;have f3:=d7.ro.frozen (j * 5+3);clear d7 s7 hx7))
       all_goals (go_wp2_with fail;go_meet;(case rel=>exact ⟨{ y with text:=ty },hty2,HT8.out⟩))
      case rest =>
       obtain ⟨yy,hyy,ht8⟩:=hcut
       have HT8:=hid ht8
       clear ht8 HSR HXR y0
       have y0:=cell_hp HT8.out.xo 0
       have r0:=cell_hp HT8.out.xr 0
       have rf:=frozen_hp HT8.out.xr 0
       simp at y0 r0
       rw [← HN.out] at y0
       have hne9:l.set j yy≠[]:=fun e=>by
        have:=congrArg List.length e
        simp at this
        exact HL0.out this
       have HFN:=hid (HT8.out.fin (HOK.out.set j yy hyy) hne9)
       have HLL:Hid ((l.set j yy).length=n):=by show _=_;rw [List.length_set,HN.out]
       rw [HLL.out] at HFN
       go_wp2
       refine bodyPost_ret (v:=.agg #[.slice (some ⟨g,0,none⟩) n cap]) (by simp [results,Tryz.results40,go_sem,r0]) rfl ⟨_,rfl,.inr ?_,?_,HFN.out.2.2⟩
       ·obtain ⟨ll,h1,h2⟩:=HFN.out.1
        exact ⟨ll,h1,h2.mono (by omega)⟩
       ·obtain ⟨p9,h1,h2⟩:=HFN.out.2.1
        exact ⟨p9,by omega,h2⟩
   ·have hti:¬ (t:Int) < (n:Int):=by omega
    go_upto_region 40 with fail
    obtain ⟨yy,hyd⟩:∃ yy:Nd,x=yy:=⟨_,rfl⟩
    have hyy:yy.text.size≤1000:=by rw [← hyd];exact htx
    have HS8:=HSR
    have HX8:=HXR
    rw [hyd] at HX8
    clear hyd HSR HXR
    obtain ⟨W8,hW8⟩:∃ W,wr=W:=⟨_,rfl⟩
    rw [hW8] at HS8 HX8 ⊢
    clear hW8
    have HP9:=hid (HS8.out.put k hkl yy)
    obtain ⟨c0,c1,c2,c3,c4⟩:=HS8.out.ro.cell k hkl
    have f0:=HS8.out.ro.frozen (k * 5)
    have f1:=HS8.out.ro.frozen (k * 5+1)
    have f2:=HS8.out.ro.frozen (k * 5+2)
    have f3:=HS8.out.ro.frozen (k * 5+3)
    have f4:=HS8.out.ro.frozen (k * 5+4)
    obtain ⟨p0,p1,p2,p3,p4⟩:=five_at HX8.out
    have y0:=cell_hp HS8.out.xo 0
    simp at y0
    rw [← HN.out] at y0
    go_upto_region 41 with fail
    obtain ⟨W9,hW9⟩:∃ W,((((W8.setCell ⟨g,k * 5,none⟩ (.int .i64 yy.kind)).setCell ⟨g,k * 5+1,none⟩ (.int .i64 yy.op)).setCell ⟨g,k * 5+2,none⟩ (.int .i64 yy.n)).setCell ⟨g,k * 5+3,none⟩ (.string yy.text)).setCell ⟨g,k * 5+4,none⟩ (.int .i64 yy.kids)=W:=⟨_,rfl⟩
    rw [hW9] at HP9 ⊢
    clear hW9 c0 c1 c2 c3 c4 f0 f1 f2 f3 f4 p0 p1 p2 p3 p4 y0 HS8 HX8
    have y0:=cell_hp HP9.out.xo 0
    have r0:=cell_hp HP9.out.xr 0
    have rf:=frozen_hp HP9.out.xr 0
    simp at y0 r0
    rw [← HN.out] at y0
    have hne9:l.set k yy≠[]:=fun e=>by
     have:=congrArg List.length e
     simp at this
     exact HL0.out this
    have HFN:=hid (HP9.out.fin (HOK.out.set k yy hyy) hne9)
    have HLL:Hid ((l.set k yy).length=n):=by show _=_;rw [List.length_set,HN.out]
    rw [HLL.out] at HFN
    go_wp2
    refine bodyPost_ret (v:=.agg #[.slice (some ⟨g,0,none⟩) n cap]) (by simp [results,Tryz.results40,go_sem,r0]) rfl ⟨_,rfl,.inr ?_,?_,HFN.out.2.2⟩
    ·obtain ⟨ll,h1,h2⟩:=HFN.out.1
     exact ⟨ll,h1,h2.mono (by omega)⟩
    ·obtain ⟨p9,h1,h2⟩:=HFN.out.2.1
     exact ⟨p9,by omega,h2⟩
 ·have HGO:Hid (∀ W:World,W.heap[ob]?=some (.cells #[.slice (some ⟨g,0,none⟩) l.length cap] 50 (0,0))→W.cell? ⟨ob,0,none⟩=some (.slice (some ⟨g,0,none⟩) n cap)):=fun W h=>by
   rw [HN.out]
   exact cell_hp h 0
  go_wp2_with fail
  go_loopw [9,10] (fun i _ wr=>∃ t:Nat,t≤n∧i=.int .i64 t∧SI R tb (tb+1) ob gt g ct cap (p+1+1+1) w l l wr∧wr.heap[xb]?=some (.cells #[.int .i64 (x).kind,.int .i64 (x).op,.int .i64 (x).n,.string (x).text,.int .i64 (x).kids] 81 (0,0))) (fun i _ _=>n - (intOf i).toNat)
  case atStart=>exact ⟨0,Nat.zero_le _,rfl,HS6.out,HX6.out⟩
  case round =>
   obtain ⟨t,ht,rfl,hs,hx⟩:=hrel
   have HSR:=hid hs
   have HXR:=hid hx
   clear hs hx HS6 HX6
   by_cases hlt:t < n
   ·have hti:(t:Int) < (n:Int):=by omega
    obtain ⟨j,hj⟩:∃ j,(k+t) % n=j:=⟨_,rfl⟩
    have hjn:j < n:=by rw [← hj];exact Nat.mod_lt _ (by omega)
    have hjw:IntKind.i64.wrap ((k:Int)+t)=(k:Int)+t:=by rw [IntKind.wrap_i64];omega
    have hrem:((k:Int)+t).tmod (n:Int)=(j:Int):=by
     rw [Int.tmod_eq_emod_of_nonneg (by omega),← hj,Int.natCast_emod]
     simp
    have hjl:j < l.length:=by rw [← HN.out];exact hjn
    have hji:(j:Int) < (n:Int):=by omega
    have htw:IntKind.i64.wrap ((t:Int)+1)=(t:Int)+1:=by rw [IntKind.wrap_i64];omega
    obtain ⟨c0,c1,c2,c3,c4⟩:=HSR.out.ro.cell j hjl
    obtain ⟨y,hy⟩:∃ y,l[j]=y:=⟨_,rfl⟩
    have HY:=hid hy
    rw [hy] at c0 c1 c2 c3 c4
    have y0:=HGO.out _ HSR.out.xo
    clear hj hy
    go_upto_region 27 with fail
    go_cut [133] (fun b wx=>(∃ bb:Bool,b=.bool bb)∧wx=wr)
    case first =>
     by_cases e1:y.kind=5
     ·go_wp2_with fail
      go_meet
      case rel=>exact ⟨⟨_,rfl⟩,rfl⟩
     ·by_cases e2:y.kind=14
      ·go_wp2_with fail
       go_meet
       case rel=>exact ⟨⟨_,rfl⟩,rfl⟩
      ·go_wp2_with fail
       refine (l1In_b _ _ _ _).mono ?_
       rintro e w7 ⟨⟨b,rfl⟩,hw7⟩
       have hw8:=hw7.symm
       clear hw7
       subst hw8
       go_wp2_with fail
       go_meet
       case rel=>exact ⟨⟨_,rfl⟩,rfl⟩
    case rest =>
     obtain ⟨⟨bb,rfl⟩,hwc⟩:=hcut
     subst hwc
     cases bb
     ·go_wp2
      go_roundw
      case rel=>exact ⟨t+1,by omega,by go_num,HSR.out,HXR.out⟩
      case measure=>simp [intOf];omega
     ·go_upto_region 28 with fail
      go_cut [] (fun wx=>∃ yy:Nd,yy.text.size≤1000∧SI R tb (tb+1) ob gt g ct cap (p+1+1+1+1) w l (l.set j yy) wx)
      case first =>
       have HSD:=hid (HSR.out.next (Below.refl _ _).drew)
       have HSA:=hid (HSR.out.next ((Below.refl _ _).alloc (Nat.le_refl _) (.cells #[(.string ⟨#[110,49]⟩),(.string ⟨#[110,50]⟩),(.string ⟨#[112,48]⟩),(.string ⟨#[112,49]⟩),(.string ⟨#[115,48]⟩),(.string ⟨#[115,49]⟩),(.string ⟨#[102,48]⟩),(.string ⟨#[110,111,110,101,95,115,117,99,104]⟩)] 9)).drew)
       have yd:=HGO.out _ HSD.out.xo
       have ya:=HGO.out _ HSA.out.xo
       clear c0 c1 c2 c3 c4
       have HRL:Hid (∀ (W:World),SI R tb (tb+1) ob gt g ct cap (p+1+1+1) w l l W→W.heap.size≠R):=fun W h=>by
        have h1:=h.lt
        have h2:=h.sv.size
        show _≠_
        omega
       have HA1:Hid (∀ (W w7:World) (x7:Nat),(x7=0∨(x7:Int) < 8)→W.heap.size≠R→Sv (fun k=>k=R) (W.alloc (.cells #[(.string ⟨#[110,49]⟩),(.string ⟨#[110,50]⟩),(.string ⟨#[112,48]⟩),(.string ⟨#[112,49]⟩),(.string ⟨#[115,48]⟩),(.string ⟨#[115,49]⟩),(.string ⟨#[102,48]⟩),(.string ⟨#[110,111,110,101,95,115,117,99,104]⟩)] 9)).drew w7→∃ y:ByteArray,w7.cell? ⟨W.heap.size,x7,none⟩=some (.string y)∧y.size≤1000):=by
        intro W w7 x7 hx7 hne s7
        have e1:=s7.cell (p:=⟨W.heap.size,x7,none⟩) (by simp) hne
        have e2:(W.alloc (.cells #[(.string ⟨#[110,49]⟩),(.string ⟨#[110,50]⟩),(.string ⟨#[112,48]⟩),(.string ⟨#[112,49]⟩),(.string ⟨#[115,48]⟩),(.string ⟨#[115,49]⟩),(.string ⟨#[102,48]⟩),(.string ⟨#[110,111,110,101,95,115,117,99,104]⟩)] 9)).drew.cell? ⟨W.heap.size,x7,none⟩=(W.alloc (.cells #[(.string ⟨#[110,49]⟩),(.string ⟨#[110,50]⟩),(.string ⟨#[112,48]⟩),(.string ⟨#[112,49]⟩),(.string ⟨#[115,48]⟩),(.string ⟨#[115,49]⟩),(.string ⟨#[102,48]⟩),(.string ⟨#[110,111,110,101,95,115,117,99,104]⟩)] 9)).cell? ⟨W.heap.size,x7,none⟩:=rfl
        rw [e1,e2,cell_new_row]
        have h7:x7=0∨x7=1∨x7=2∨x7=3∨x7=4∨x7=5∨x7=6∨x7=7:=by omega
        rcases h7 with rfl | rfl | rfl | rfl | rfl | rfl | rfl | rfl <;> exact ⟨_,rfl,by decide⟩
       have HA2:Hid (∀ (W:World) (x7:Nat),(x7=0∨(x7:Int) < 8)→∃ y:ByteArray,(W.alloc (.cells #[(.string ⟨#[110,49]⟩),(.string ⟨#[110,50]⟩),(.string ⟨#[112,48]⟩),(.string ⟨#[112,49]⟩),(.string ⟨#[115,48]⟩),(.string ⟨#[115,49]⟩),(.string ⟨#[102,48]⟩),(.string ⟨#[110,111,110,101,95,115,117,99,104]⟩)] 9)).cell? ⟨W.heap.size,x7,none⟩=some (.string y)∧y.size≤1000):=by
        intro W x7 hx7
        rw [cell_new_row]
        have h7:x7=0∨x7=1∨x7=2∨x7=3∨x7=4∨x7=5∨x7=6∨x7=7:=by omega
        rcases h7 with rfl | rfl | rfl | rfl | rfl | rfl | rfl | rfl <;> exact ⟨_,rfl,by decide⟩
       go_wp2_with fail
       go_region_law (first
        | (refine step_enter rfl (f:=8) (vals:=#[.pointer (some ⟨R,0,none⟩),.int .i64 8]) (by kernel_rfl) (HSD.out.pick (by omega) 8 (by omega)) ?_;intro e w7 hq7;obtain ⟨x7,rfl,hx7,d7,s7⟩:=hq7;refine ⟨_,rfl,?_⟩;have hx7i:(x7:Int) < 8:=(by omega);have hq:=HA2.out w7 x7 hx7;obtain ⟨ty,hty1,hty2⟩:=hq;have HS8:=hid (d7.next ((Below.refl w7.heap.size w7).alloc (Nat.le_refl _) (.cells #[(.string ⟨#[110,49]⟩),(.string ⟨#[110,50]⟩),(.string ⟨#[112,48]⟩),(.string ⟨#[112,49]⟩),(.string ⟨#[115,48]⟩),(.string ⟨#[115,49]⟩),(.string ⟨#[102,48]⟩),(.string ⟨#[110,111,110,101,95,115,117,99,104]⟩)] 9)));have HT8:=hid (HS8.out.set1 j 3 hjl (by decide) (.string ty) { y with text:=ty } (by rw [HY.out];rfl));have y7:=HGO.out _ d7.xo;have y8:=HGO.out _ HS8.out.xo;have hc:=HS8.out.ro.cell j hjl;obtain ⟨_,_,_,c3,_⟩:=hc;have f3:=HS8.out.ro.frozen (j * 5+3);clear d7 s7 hx7)
        | (refine step_enter rfl (f:=8) (vals:=#[.pointer (some ⟨R,0,none⟩),.int .i64 8]) (by kernel_rfl) (HSA.out.pick (by omega) 8 (by omega)) ?_;intro e w7 hq7;obtain ⟨x7,rfl,hx7,d7,s7⟩:=hq7;refine ⟨_,rfl,?_⟩;have hx7i:(x7:Int) < 8:=(by omega);have hq:=HA1.out _ w7 x7 hx7 (HRL.out _ HSR.out) s7;obtain ⟨ty,hty1,hty2⟩:=hq;have HT8:=hid (d7.set1 j 3 hjl (by decide) (.string ty) { y with text:=ty } (by rw [HY.out];rfl));have y7:=HGO.out _ d7.xo;have hc:=d7.ro.cell j hjl;obtain ⟨_,_,_,c3,_⟩:=hc;have f3:=d7.ro.frozen (j * 5+3);clear d7 s7 hx7))
       all_goals (go_wp2_with fail;go_meet;(case rel=>exact ⟨{ y with text:=ty },hty2,HT8.out⟩))
      case rest =>
       obtain ⟨yy,hyy,ht8⟩:=hcut
       have HT8:=hid ht8
       clear ht8 HSR HXR y0
       have y0:=cell_hp HT8.out.xo 0
       have r0:=cell_hp HT8.out.xr 0
       have rf:=frozen_hp HT8.out.xr 0
       simp at y0 r0
       rw [← HN.out] at y0
       have hne9:l.set j yy≠[]:=fun e=>by
        have:=congrArg List.length e
        simp at this
        exact HL0.out this
       have HFN:=hid (HT8.out.fin (HOK.out.set j yy hyy) hne9)
       have HLL:Hid ((l.set j yy).length=n):=by show _=_;rw [List.length_set,HN.out]
       rw [HLL.out] at HFN
       go_wp2
       refine bodyPost_ret (v:=.agg #[.slice (some ⟨g,0,none⟩) n cap]) (by simp [results,Tryz.results40,go_sem,r0]) rfl ⟨_,rfl,.inr ?_,?_,HFN.out.2.2⟩
       ·obtain ⟨ll,h1,h2⟩:=HFN.out.1
        exact ⟨ll,h1,h2.mono (by omega)⟩
       ·obtain ⟨p9,h1,h2⟩:=HFN.out.2.1
        exact ⟨p9,by omega,h2⟩
   ·have hti:¬ (t:Int) < (n:Int):=by omega
    go_upto_region 40 with fail
    obtain ⟨yy,hyd⟩:∃ yy:Nd,x=yy:=⟨_,rfl⟩
    have hyy:yy.text.size≤1000:=by rw [← hyd];exact htx
    have HS8:=HSR
    have HX8:=HXR
    rw [hyd] at HX8
    clear hyd HSR HXR
    obtain ⟨W8,hW8⟩:∃ W,wr=W:=⟨_,rfl⟩
    rw [hW8] at HS8 HX8 ⊢
    clear hW8
    have HP9:=hid (HS8.out.put k hkl yy)
    obtain ⟨c0,c1,c2,c3,c4⟩:=HS8.out.ro.cell k hkl
    have f0:=HS8.out.ro.frozen (k * 5)
    have f1:=HS8.out.ro.frozen (k * 5+1)
    have f2:=HS8.out.ro.frozen (k * 5+2)
    have f3:=HS8.out.ro.frozen (k * 5+3)
    have f4:=HS8.out.ro.frozen (k * 5+4)
    obtain ⟨p0,p1,p2,p3,p4⟩:=five_at HX8.out
    have y0:=cell_hp HS8.out.xo 0
    simp at y0
    rw [← HN.out] at y0
    go_upto_region 41 with fail
    obtain ⟨W9,hW9⟩:∃ W,((((W8.setCell ⟨g,k * 5,none⟩ (.int .i64 yy.kind)).setCell ⟨g,k * 5+1,none⟩ (.int .i64 yy.op)).setCell ⟨g,k * 5+2,none⟩ (.int .i64 yy.n)).setCell ⟨g,k * 5+3,none⟩ (.string yy.text)).setCell ⟨g,k * 5+4,none⟩ (.int .i64 yy.kids)=W:=⟨_,rfl⟩
    rw [hW9] at HP9 ⊢
    clear hW9 c0 c1 c2 c3 c4 f0 f1 f2 f3 f4 p0 p1 p2 p3 p4 y0 HS8 HX8
    have y0:=cell_hp HP9.out.xo 0
    have r0:=cell_hp HP9.out.xr 0
    have rf:=frozen_hp HP9.out.xr 0
    simp at y0 r0
    rw [← HN.out] at y0
    have hne9:l.set k yy≠[]:=fun e=>by
     have:=congrArg List.length e
     simp at this
     exact HL0.out this
    have HFN:=hid (HP9.out.fin (HOK.out.set k yy hyy) hne9)
    have HLL:Hid ((l.set k yy).length=n):=by show _=_;rw [List.length_set,HN.out]
    rw [HLL.out] at HFN
    go_wp2
    refine bodyPost_ret (v:=.agg #[.slice (some ⟨g,0,none⟩) n cap]) (by simp [results,Tryz.results40,go_sem,r0]) rfl ⟨_,rfl,.inr ?_,?_,HFN.out.2.2⟩
    ·obtain ⟨ll,h1,h2⟩:=HFN.out.1
     exact ⟨ll,h1,h2.mono (by omega)⟩
    ·obtain ⟨p9,h1,h2⟩:=HFN.out.2.1
     exact ⟨p9,by omega,h2⟩
 ·have HGO:Hid (∀ W:World,W.heap[ob]?=some (.cells #[.slice (some ⟨g,0,none⟩) l.length cap] 50 (0,0))→W.cell? ⟨ob,0,none⟩=some (.slice (some ⟨g,0,none⟩) n cap)):=fun W h=>by
   rw [HN.out]
   exact cell_hp h 0
  have HGT:Hid (∀ W:World,W.heap[tb]?=some (.cells #[.slice (some ⟨gt,0,none⟩) l.length ct] 50 (0,0))→W.cell? ⟨tb,0,none⟩=some (.slice (some ⟨gt,0,none⟩) n ct)):=fun W h=>by
   rw [HN.out]
   exact cell_hp h 0
  go_wp2_with fail
  go_loopw [11,12,13] (fun i _ _ wr=>∃ t:Nat,t≤n∧i=.int .i64 t∧SI R tb (tb+1) ob gt g ct cap (p+1+1+1) w l l wr∧wr.heap[xb]?=some (.cells #[.int .i64 (x).kind,.int .i64 (x).op,.int .i64 (x).n,.string (x).text,.int .i64 (x).kids] 81 (0,0))) (fun i _ _ _=>n - (intOf i).toNat)
  case atStart=>exact ⟨0,Nat.zero_le _,rfl,HS6.out,HX6.out⟩
  case round =>
   obtain ⟨t,ht,rfl,hs,hx⟩:=hrel
   have HSR:=hid hs
   have HXR:=hid hx
   clear hs hx HS6 HX6
   by_cases hlt:t < n
   ·have hti:(t:Int) < (n:Int):=by omega
    obtain ⟨j,hj⟩:∃ j,(k+t) % n=j:=⟨_,rfl⟩
    have hjn:j < n:=by rw [← hj];exact Nat.mod_lt _ (by omega)
    have hjw:IntKind.i64.wrap ((k:Int)+t)=(k:Int)+t:=by rw [IntKind.wrap_i64];omega
    have hrem:((k:Int)+t).tmod (n:Int)=(j:Int):=by
     rw [Int.tmod_eq_emod_of_nonneg (by omega),← hj,Int.natCast_emod]
     simp
    have hjl:j < l.length:=by rw [← HN.out];exact hjn
    have hji:(j:Int) < (n:Int):=by omega
    have htw:IntKind.i64.wrap ((t:Int)+1)=(t:Int)+1:=by rw [IntKind.wrap_i64];omega
    obtain ⟨c0,c1,c2,c3,c4⟩:=HSR.out.ro.cell j hjl
    obtain ⟨y,hy⟩:∃ y,l[j]=y:=⟨_,rfl⟩
    have HY:=hid hy
    rw [hy] at c0 c1 c2 c3 c4
    have y0:=HGO.out _ HSR.out.xo
    clear hj hy
    by_cases e1:y.kind=19
    ·by_cases e2:y.kids=0
     ·go_upto_region 36 with fail
      clear c0 c1 c2 c3 c4
      have HBA:=hid ((Below.refl wr.heap.size wr).alloc (Nat.le_refl _) (.cells #[] 81))
      have HSA:=hid (HSR.out.next HBA.out)
      have HOA:Hid ((wr.alloc (.cells #[] 81)).ownsRow wr.heap.size 81 5 (.slice (some ⟨wr.heap.size,0,none⟩) 0 0) 0 []):=by
       refine ⟨rfl,.inr ⟨wr.heap.size,0,#[],rfl,Nat.le_refl _,heap_alloc_new wr (.cells #[] 81),Nat.le_refl _,by unfold maxLen;omega,rfl,rfl⟩⟩
      have HTL:Hid ((ndRow (l.take j)).length=j * 5):=by show _=_;rw [ndRow_length,List.length_take];congr 1;omega
      have HTC:=hid (HSA.out.rt.part j (by omega)).1
      have ta:=HGT.out _ HSA.out.xt
      have ij:(j:Int)≤(ct:Int):=by omega
      go_wp2_with (at_builtin;refine wpList_append_own _ rfl _ _ 48 rfl wr.heap.size 81 i0 (.agg #[.int .i64 0,.int .i64 0,.int .i64 0,.string ⟨#[]⟩,.int .i64 0]) 5 48 Tryz.underlying48 HHI.out.1 HHI.out.2.1 HHI.out.2.2.1 HHI.out.2.2.2 rfl (by decide) (.slice (some ⟨wr.heap.size,0,none⟩) 0 0) 0 [] (by first | rfl | (simp [Act.eval];done) | (simp [Act.eval];omega) | (simp [Act.eval,Act.put];done) | (simp [Act.eval,Act.put];omega)) HOA.out ⟨gt,0,none⟩ j ct (ndRow (l.take j)) (by first | rfl | (simp [Act.eval];done) | (simp [Act.eval];omega) | (simp [Act.eval,Act.put];done) | (simp [Act.eval,Act.put];omega)) HTL.out HTC.out (ndRow_one _) ?c3 ?c4 ?c5 ?_)
      case c3=>unfold maxLen;omega
      case c4=>omega
      case c5=>exact HBA.out.size
      intro vA wA h2 h3 _
      try rw [Nat.zero_add,List.nil_append] at h2
      have HBB:=hid (HBA.out.grown h3 HBA.out.size (fun q e=>by cases e;exact Nat.le_refl _))
      have HOW:=hid (own_tr h2 (by rw [List.length_take];omega)).2
      have HBC:=hid (HBB.out.alloc HBB.out.size (.cells #[.int .i64 1,.int .i64 0,.int .i64 0,.string ⟨#[]⟩,.int .i64 0] 81))
      have HOC:=hid (h2.alloc (.cells #[.int .i64 1,.int .i64 0,.int .i64 0,.string ⟨#[]⟩,.int .i64 0] 81))
      have HNC:Hid (∀ (q:Nat) u,(ndRow [(⟨1,0,0,⟨#[]⟩,0⟩:Nd)])[q]?=some u→(wA.alloc (.cells #[.int .i64 1,.int .i64 0,.int .i64 0,.string ⟨#[]⟩,.int .i64 0] 81)).cell? ((⟨wA.heap.size,0,none⟩:Addr).add q)=some u):=fun q u h=>by
       rw [add_none,Nat.zero_add,cell_new_row]
       simpa [ndRow] using h
      clear h2 h3
      go_wp2_with (at_builtin;refine wpList_append_own _ rfl _ _ 48 rfl wr.heap.size 81 i0 (.agg #[.int .i64 0,.int .i64 0,.int .i64 0,.string ⟨#[]⟩,.int .i64 0]) 5 48 Tryz.underlying48 HHI.out.1 HHI.out.2.1 HHI.out.2.2.1 HHI.out.2.2.2 rfl (by decide) vA j (ndRow (l.take j)) (by first | rfl | (simp [Act.eval];done) | (simp [Act.eval];omega) | (simp [Act.eval,Act.put];done) | (simp [Act.eval,Act.put];omega)) HOC.out ⟨wA.heap.size,0,none⟩ 1 1 (ndRow [(⟨1,0,0,⟨#[]⟩,0⟩:Nd)]) (by first | rfl | (simp [Act.eval];done) | (simp [Act.eval];omega) | (simp [Act.eval,Act.put];done) | (simp [Act.eval,Act.put];omega)) rfl HNC.out (ndRow_one _) ?c3 ?c4 ?c5 ?_)
      case c3=>unfold maxLen;omega
      case c4=>omega
      case c5=>exact HBC.out.size
      intro vB wB h2 h3 _
      rw [← ndRow_append] at h2
      have HBD:=hid (HBC.out.grown h3 HBC.out.size HOW.out)
      have HOX:=hid (own_tr h2 (by rw [List.length_append,List.length_take];simp;omega)).2
      have HSD:=hid (HSR.out.next HBD.out)
      have HOD:=hid h2
      have td:=HGT.out _ HSD.out.xt
      have HDL:Hid ((ndRow (l.drop j)).length=(n - j) * 5):=by show _=_;rw [ndRow_length,List.length_drop,HN.out]
      have HDC:=hid (HSD.out.rt.part j (by omega)).2
      clear h2 h3
      go_wp2_with (at_builtin;refine wpList_append_own _ rfl _ _ 48 rfl wr.heap.size 81 i0 (.agg #[.int .i64 0,.int .i64 0,.int .i64 0,.string ⟨#[]⟩,.int .i64 0]) 5 48 Tryz.underlying48 HHI.out.1 HHI.out.2.1 HHI.out.2.2.1 HHI.out.2.2.2 rfl (by decide) vB (j+1) (ndRow (l.take j ++ [(⟨1,0,0,⟨#[]⟩,0⟩:Nd)])) (by first | rfl | (simp [Act.eval];done) | (simp [Act.eval];omega) | (simp [Act.eval,Act.put];done) | (simp [Act.eval,Act.put];omega)) HOD.out ⟨gt,j * 5,none⟩ (n - j) (ct - j) (ndRow (l.drop j)) (by first | rfl | (simp [Act.eval];done) | (simp [Act.eval];omega) | (simp [Act.eval,Act.put];done) | (simp [Act.eval,Act.put];omega)) HDL.out HDC.out (ndRow_one _) ?c3 ?c4 ?c5 ?_)
      case c3=>unfold maxLen;omega
      case c4=>omega
      case c5=>exact HBD.out.size
      intro vC wC h2 h3 _
      rw [← ndRow_append] at h2
      have HBE:=hid (HBD.out.grown h3 HBD.out.size HOX.out)
      have HSE:=hid (HSR.out.next HBE.out)
      have HK2:=hid (HOK.out.ins j (⟨1,0,0,⟨#[]⟩,0⟩:Nd) (by decide))
      obtain ⟨l2,hl2⟩:∃ l2,l.take j ++ [(⟨1,0,0,⟨#[]⟩,0⟩:Nd)] ++ l.drop j=l2:=⟨_,rfl⟩
      have hl2n:n+1=l2.length:=by rw [← hl2,List.length_append,List.length_append,List.length_take,List.length_drop,← HN.out];simp;omega
      rw [hl2] at h2 HK2
      obtain ⟨N9,hN9⟩:∃ N9,n+1=N9:=⟨_,rfl⟩
      rw [show j+1+(n - j)=N9 by omega] at h2
      rw [hN9] at hl2n
      have h4:=own_tr h2 hl2n
      obtain ⟨⟨ad9,c9,rfl,h5⟩,_⟩:=h4
      have h6:=h5.resolve_left (by omega)
      obtain ⟨g9,rfl,hg1,hg2,hg3⟩:=h6
      obtain ⟨J,hJ⟩:∃ J,j+1=J:=⟨_,rfl⟩
      have hJw:IntKind.i64.wrap ((j:Int)+1)=(J:Int):=by rw [IntKind.wrap_i64];omega
      have hJn:(J:Int) < (N9:Int):=by omega
      have hJl:J < l2.length:=by omega
      obtain ⟨_,_,_,_,c4⟩:=hg3.cell J hJl
      have f4:=hg3.frozen (J * 5+4)
      have HRS:=hid (hg3.set J 4 hJl (by decide) (.int .i64 1) { l2[J] with kids:=1 } rfl)
      have HKS:=hid (HK2.out.set J { l2[J] with kids:=1 } (show (l2[J]).text.size≤1000 from HK2.out.2 (l2[J]) (List.getElem_mem hJl)))
      have HLS:Hid (N9=(l2.set J { l2[J] with kids:=1 }).length):=by show _=_;rw [List.length_set];exact hl2n
      have htz:tb+1 < wr.heap.size:=(Array.getElem?_eq_some_iff.1 HSR.out.xr).1
      have hlo:=HSR.out.lo
      have hsz:=HSR.out.sv.size
      have HR1:=hid ((Below.heap_setCell wC ⟨g9,J * 5+4,none⟩ (.int .i64 1) (tb+1) (by show tb+1≠g9;omega)).trans HSE.out.xr)
      have HE1:=hid (HSE.out.se.set (b:=g9) (i:=J * 5+4) (.int .i64 1) (by omega))
      clear h2 h3 h5 hg3 hl2 hl2n hJ HBE HSE HBD HSD HBB HBC HBA HSA HOA HOC HNC HOD HDC HTC ta td y0
      go_upto_region 39 with fail
      obtain ⟨W1,hW1⟩:∃ W,wC.setCell ⟨g9,J * 5+4,none⟩ (.int .i64 1)=W:=⟨_,rfl⟩
      rw [hW1] at HE1 HR1 HRS ⊢
      clear hW1 c4 f4
      have r0:=cell_hp HR1.out 0
      have rf:=frozen_hp HR1.out 0
      simp at r0
      have HFN:=hid ((HE1.out.set (b:=tb+1) (i:=0) (.slice (some ⟨g9,0,none⟩) N9 c9) (by omega)).fin (ad:=some ⟨g9,0,none⟩) (m:=N9) (c:=c9) (.inr ⟨g9,rfl,hg2,HRS.out.other (by omega)⟩) HLS.out HKS.out)
      go_wp2
      refine bodyPost_ret (v:=.agg #[.slice (some ⟨g9,0,none⟩) N9 c9]) (by simp [results,Tryz.results40,go_sem,r0]) rfl ⟨_,rfl,HFN.out.1,?_,HFN.out.2.2⟩
      obtain ⟨p9,h1,h2⟩:=HFN.out.2.1
      exact ⟨p9,by omega,h2⟩
     ·go_wp2
      go_roundw
      case rel=>exact ⟨t+1,by omega,by go_num,HSR.out,HXR.out⟩
      case measure=>simp [intOf];omega
    ·go_wp2
     go_roundw
     case rel=>exact ⟨t+1,by omega,by go_num,HSR.out,HXR.out⟩
     case measure=>simp [intOf];omega
   ·have hti:¬ (t:Int) < (n:Int):=by omega
    go_upto_region 40 with fail
    obtain ⟨yy,hyd⟩:∃ yy:Nd,x=yy:=⟨_,rfl⟩
    have hyy:yy.text.size≤1000:=by rw [← hyd];exact htx
    have HS8:=HSR
    have HX8:=HXR
    rw [hyd] at HX8
    clear hyd HSR HXR
    obtain ⟨W8,hW8⟩:∃ W,wr=W:=⟨_,rfl⟩
    rw [hW8] at HS8 HX8 ⊢
    clear hW8
    have HP9:=hid (HS8.out.put k hkl yy)
    obtain ⟨c0,c1,c2,c3,c4⟩:=HS8.out.ro.cell k hkl
    have f0:=HS8.out.ro.frozen (k * 5)
    have f1:=HS8.out.ro.frozen (k * 5+1)
    have f2:=HS8.out.ro.frozen (k * 5+2)
    have f3:=HS8.out.ro.frozen (k * 5+3)
    have f4:=HS8.out.ro.frozen (k * 5+4)
    obtain ⟨p0,p1,p2,p3,p4⟩:=five_at HX8.out
    have y0:=cell_hp HS8.out.xo 0
    simp at y0
    rw [← HN.out] at y0
    go_upto_region 41 with fail
    obtain ⟨W9,hW9⟩:∃ W,((((W8.setCell ⟨g,k * 5,none⟩ (.int .i64 yy.kind)).setCell ⟨g,k * 5+1,none⟩ (.int .i64 yy.op)).setCell ⟨g,k * 5+2,none⟩ (.int .i64 yy.n)).setCell ⟨g,k * 5+3,none⟩ (.string yy.text)).setCell ⟨g,k * 5+4,none⟩ (.int .i64 yy.kids)=W:=⟨_,rfl⟩
    rw [hW9] at HP9 ⊢
    clear hW9 c0 c1 c2 c3 c4 f0 f1 f2 f3 f4 p0 p1 p2 p3 p4 y0 HS8 HX8
    have y0:=cell_hp HP9.out.xo 0
    have r0:=cell_hp HP9.out.xr 0
    have rf:=frozen_hp HP9.out.xr 0
    simp at y0 r0
    rw [← HN.out] at y0
    have hne9:l.set k yy≠[]:=fun e=>by
     have:=congrArg List.length e
     simp at this
     exact HL0.out this
    have HFN:=hid (HP9.out.fin (HOK.out.set k yy hyy) hne9)
    have HLL:Hid ((l.set k yy).length=n):=by show _=_;rw [List.length_set,HN.out]
    rw [HLL.out] at HFN
    go_wp2
    refine bodyPost_ret (v:=.agg #[.slice (some ⟨g,0,none⟩) n cap]) (by simp [results,Tryz.results40,go_sem,r0]) rfl ⟨_,rfl,.inr ?_,?_,HFN.out.2.2⟩
    ·obtain ⟨ll,h1,h2⟩:=HFN.out.1
     exact ⟨ll,h1,h2.mono (by omega)⟩
    ·obtain ⟨p9,h1,h2⟩:=HFN.out.2.1
     exact ⟨p9,by omega,h2⟩
 ·have HGO:Hid (∀ W:World,W.heap[ob]?=some (.cells #[.slice (some ⟨g,0,none⟩) l.length cap] 50 (0,0))→W.cell? ⟨ob,0,none⟩=some (.slice (some ⟨g,0,none⟩) n cap)):=fun W h=>by
   rw [HN.out]
   exact cell_hp h 0
  have HSD:=hid (HS6.out.next (Below.refl w6.heap.size w6).drew)
  have HBA:=hid ((Below.refl w6.heap.size w6).alloc (Nat.le_refl _) (.cells #[] 81)).drew
  have HSA:=hid (HS6.out.next HBA.out)
  have HOA:Hid (((w6.alloc (.cells #[] 81)).drew).ownsRow w6.heap.size 81 5 (.slice (some ⟨w6.heap.size,0,none⟩) 0 0) 0 []):=by
   refine ⟨rfl,.inr ⟨w6.heap.size,0,#[],rfl,Nat.le_refl _,heap_alloc_new w6 (.cells #[] 81),Nat.le_refl _,by unfold maxLen;omega,rfl,rfl⟩⟩
  have HTL:Hid ((ndRow (l.take k)).length=k * 5):=by show _=_;rw [ndRow_length,List.length_take];congr 1;omega
  have HTC:=hid (HSA.out.ro.part k (by omega)).1
  have HZA:Hid (w6.heap.size≤((w6.alloc (.cells #[] 81)).drew).heap.size):=HBA.out.size
  have HLT:Hid (k=(l.take k).length):=by show _=_;rw [List.length_take];omega
  have HLC:Hid (n - 1=(l.take k ++ l.drop (k+1)).length):=by show _=_;rw [List.length_append,List.length_take,List.length_drop,HN.out];have:=HN.out;omega
  have HE8:Hid (∀ (v:Value) (W:World),W.ownsRow w6.heap.size 81 5 v (0+k) ([] ++ ndRow (l.take k))→W.ownsRow w6.heap.size 81 5 v k (ndRow (l.take k))):=fun v W h=>by rw [Nat.zero_add,List.nil_append] at h;exact h
  have y6:=HGO.out _ HS6.out.xo
  have yd:=HGO.out _ HSD.out.xo
  have ya:=HGO.out _ HSA.out.xo
  have z6:=frozen_hp HS6.out.xo 0
  have hcap:n≤cap:=by have:=HS6.out.cp.2;rw [← HN.out] at this;exact this
  have hk1:IntKind.i64.wrap ((k:Int)+1)=(k:Int)+1:=by rw [IntKind.wrap_i64];omega
  have i1:(0:Int)≤(k:Int)+1:=by omega
  have i2:(k:Int)+1≤(n:Int):=by omega
  have i3:(k:Int)≤(cap:Int):=by omega
  have hoz:ob < w6.heap.size:=(Array.getElem?_eq_some_iff.1 HS6.out.xo).1
  have htz:tb+1 < w6.heap.size:=(Array.getElem?_eq_some_iff.1 HS6.out.xr).1
  have hlo:=HS6.out.lo
  have hob:w.heap.size≤ob:=by omega
  have htb1:w.heap.size≤tb+1:=by omega
  have htn:tb+1≠ob:=by omega
  by_cases hkc:k+1 < cap
  ·have HE9:Hid (∀ (v:Value) (W:World),W.ownsRow w6.heap.size 81 5 v (k+(n - (k+1))) (ndRow (l.take k) ++ ndRow (l.drop (k+1)))→W.ownsRow w6.heap.size 81 5 v (n - 1) (ndRow (l.take k ++ l.drop (k+1)))):=fun v W h=>by rw [ndRow_append,show n - 1=k+(n - (k+1)) by omega];exact h
   have HDL:Hid ((ndRow (l.drop (k+1))).length=(n - (k+1)) * 5):=by show _=_;rw [ndRow_length,List.length_drop,HN.out]
   go_wp2_with fail
   go_region_law (first
    | (refine step_append_own_at rfl (.tmp 40) (.tmp 44) 48 rfl w6.heap.size 81 i0 (.agg #[.int .i64 0,.int .i64 0,.int .i64 0,.string ⟨#[]⟩,.int .i64 0]) 5 48 Tryz.underlying48 HHI.out.1 HHI.out.2.1 HHI.out.2.2.1 HHI.out.2.2.2 rfl (by decide) (.slice (some ⟨w6.heap.size,0,none⟩) 0 0) 0 [] (by first | rfl | (simp [Act.eval];done) | (simp [Act.eval];omega) | (simp [Act.eval,Act.put];done) | (simp [Act.eval,Act.put];omega)) HOA.out ⟨g,0,none⟩ k cap (ndRow (l.take k)) (by first | rfl | (simp [Act.eval];done) | (simp [Act.eval];omega) | (simp [Act.eval,Act.put];done) | (simp [Act.eval,Act.put];omega)) HTL.out HTC.out (ndRow_one _) (by unfold maxLen;omega) (by omega) HZA.out ?_;intro v8 w8 h2 h3 _ _;have HO8:=hid (HE8.out _ _ h2);have HB8:=hid (HBA.out.grown h3 HBA.out.size (fun q e=>by cases e;exact Nat.le_refl _));have HS8:=hid (HS6.out.next HB8.out);have y8:=HGO.out _ HS8.out.xo;have z8:=frozen_hp HS8.out.xo 0;clear h2 h3)
    | (refine step_append_own_at rfl (.tmp 45) (.tmp 50) 48 rfl w6.heap.size 81 i0 (.agg #[.int .i64 0,.int .i64 0,.int .i64 0,.string ⟨#[]⟩,.int .i64 0]) 5 48 Tryz.underlying48 HHI.out.1 HHI.out.2.1 HHI.out.2.2.1 HHI.out.2.2.2 rfl (by decide) v8 k (ndRow (l.take k)) (by first | rfl | (simp [Act.eval];done) | (simp [Act.eval];omega) | (simp [Act.eval,Act.put];done) | (simp [Act.eval,Act.put];omega)) HO8.out ⟨g,(k+1) * 5,none⟩ (n - (k+1)) (cap - (k+1)) (ndRow (l.drop (k+1))) (by first | rfl | (simp [Act.eval];done) | (simp [Act.eval];omega) | (simp [Act.eval,Act.put];done) | (simp [Act.eval,Act.put];omega)) HDL.out (HS8.out.ro.part (k+1) (by omega)).2 (ndRow_one _) (by unfold maxLen;omega) (by omega) HB8.out.size ?_;intro v9 w9 h2 h3 _ _;have h4:=own_tr (HE9.out _ _ h2) HLC.out;obtain ⟨⟨ad9,c9,rfl,h5⟩,_⟩:=h4;have HT9:=hid h5;have HB9:=hid (HB8.out.grown h3 HB8.out.size (fun q e=>(own_tr HO8.out HLT.out).2 q e));have HS9:=hid (HS6.out.next HB9.out);have y9:=HGO.out _ HS9.out.xo;have z9:=frozen_hp HS9.out.xo 0;clear h2 h3 h5))
   all_goals
    have HE1:=hid (HS9.out.se.set (b:=ob) (i:=0) (.slice ad9 (n - 1) c9) hob)
    have HY1:=hid (set_at (i:=0) (.slice ad9 (n - 1) c9) HS9.out.xo)
    have HR1:=hid ((Below.heap_setCell w9 ⟨ob,0,none⟩ (.slice ad9 (n - 1) c9) (tb+1) htn).trans HS9.out.xr)
    have HT1:Hid (n - 1=0∨∃ g,ad9=some ⟨g,0,none⟩∧w6.heap.size≤g∧n - 1≤c9∧RowIn (w9.setCell ⟨ob,0,none⟩ (.slice ad9 (n - 1) c9)) g (l.take k ++ l.drop (k+1))):=HT9.out.imp id (fun ⟨q,q1,q2,q3,q4⟩=>⟨q,q1,q2,q3,q4.other (by omega)⟩)
    obtain ⟨W1,hW1⟩:∃ W,w9.setCell ⟨ob,0,none⟩ (.slice ad9 (n - 1) c9)=W:=⟨_,rfl⟩
    rw [hW1] at HE1 HY1 HR1 HT1 ⊢
    clear hW1 y9 z9 y8 z8 y6 z6 yd ya HS9 HB9 HT9 HS8 HB8 HO8
    have y0:=cell_hp HY1.out 0
    have r0:=cell_hp HR1.out 0
    have rf:=frozen_hp HR1.out 0
    simp at y0 r0
    have HFN:=hid ((HE1.out.set (b:=tb+1) (i:=0) (.slice ad9 (n - 1) c9) htb1).fin (ad:=ad9) (c:=c9) (HT1.out.imp id (fun ⟨q,q1,q2,q3,q4⟩=>⟨q,q1,q3,q4.other (by omega)⟩)) HLC.out (HOK.out.cut k))
    go_wp2
    refine bodyPost_ret (v:=.agg #[.slice ad9 (n - 1) c9]) (by simp [results,Tryz.results40,go_sem,r0]) rfl ⟨_,rfl,HFN.out.1.mono (by omega),?_,HFN.out.2.2⟩
    obtain ⟨p9,h1,h2⟩:=HFN.out.2.1
    exact ⟨p9,by omega,h2⟩
  ·have HE9:Hid (∀ (v:Value) (W:World),W.ownsRow w6.heap.size 81 5 v (k+(n - (k+1))) (ndRow (l.take k) ++ [])→W.ownsRow w6.heap.size 81 5 v (n - 1) (ndRow (l.take k ++ l.drop (k+1)))):=fun v W h=>by
    rw [List.drop_eq_nil_of_le (by rw [← HN.out];omega),List.append_nil,show n - 1=k+(n - (k+1)) by omega]
    rw [List.append_nil] at h
    exact h
   go_wp2_with fail
   go_region_law (first
    | (refine step_append_own_at rfl (.tmp 40) (.tmp 44) 48 rfl w6.heap.size 81 i0 (.agg #[.int .i64 0,.int .i64 0,.int .i64 0,.string ⟨#[]⟩,.int .i64 0]) 5 48 Tryz.underlying48 HHI.out.1 HHI.out.2.1 HHI.out.2.2.1 HHI.out.2.2.2 rfl (by decide) (.slice (some ⟨w6.heap.size,0,none⟩) 0 0) 0 [] (by first | rfl | (simp [Act.eval];done) | (simp [Act.eval];omega) | (simp [Act.eval,Act.put];done) | (simp [Act.eval,Act.put];omega)) HOA.out ⟨g,0,none⟩ k cap (ndRow (l.take k)) (by first | rfl | (simp [Act.eval];done) | (simp [Act.eval];omega) | (simp [Act.eval,Act.put];done) | (simp [Act.eval,Act.put];omega)) HTL.out HTC.out (ndRow_one _) (by unfold maxLen;omega) (by omega) HZA.out ?_;intro v8 w8 h2 h3 _ _;have HO8:=hid (HE8.out _ _ h2);have HB8:=hid (HBA.out.grown h3 HBA.out.size (fun q e=>by cases e;exact Nat.le_refl _));have HS8:=hid (HS6.out.next HB8.out);have y8:=HGO.out _ HS8.out.xo;have z8:=frozen_hp HS8.out.xo 0;clear h2 h3)
    | (refine step_append_own_at rfl (.tmp 45) (.tmp 50) 48 rfl w6.heap.size 81 i0 (.agg #[.int .i64 0,.int .i64 0,.int .i64 0,.string ⟨#[]⟩,.int .i64 0]) 5 48 Tryz.underlying48 HHI.out.1 HHI.out.2.1 HHI.out.2.2.1 HHI.out.2.2.2 rfl (by decide) v8 k (ndRow (l.take k)) (by first | rfl | (simp [Act.eval];done) | (simp [Act.eval];omega) | (simp [Act.eval,Act.put];done) | (simp [Act.eval,Act.put];omega)) HO8.out ⟨g,0,none⟩ (n - (k+1)) (cap - (k+1)) [] (by first | rfl | (simp [Act.eval];done) | (simp [Act.eval];omega) | (simp [Act.eval,Act.put];done) | (simp [Act.eval,Act.put];omega)) (by simp;omega) (by intro j u hu;simp at hu) (by simp) (by unfold maxLen;omega) (by omega) HB8.out.size ?_;intro v9 w9 h2 h3 _ _;have h4:=own_tr (HE9.out _ _ h2) HLC.out;obtain ⟨⟨ad9,c9,rfl,h5⟩,_⟩:=h4;have HT9:=hid h5;have HB9:=hid (HB8.out.grown h3 HB8.out.size (fun q e=>(own_tr HO8.out HLT.out).2 q e));have HS9:=hid (HS6.out.next HB9.out);have y9:=HGO.out _ HS9.out.xo;have z9:=frozen_hp HS9.out.xo 0;clear h2 h3 h5))
   all_goals
    have HE1:=hid (HS9.out.se.set (b:=ob) (i:=0) (.slice ad9 (n - 1) c9) hob)
    have HY1:=hid (set_at (i:=0) (.slice ad9 (n - 1) c9) HS9.out.xo)
    have HR1:=hid ((Below.heap_setCell w9 ⟨ob,0,none⟩ (.slice ad9 (n - 1) c9) (tb+1) htn).trans HS9.out.xr)
    have HT1:Hid (n - 1=0∨∃ g,ad9=some ⟨g,0,none⟩∧w6.heap.size≤g∧n - 1≤c9∧RowIn (w9.setCell ⟨ob,0,none⟩ (.slice ad9 (n - 1) c9)) g (l.take k ++ l.drop (k+1))):=HT9.out.imp id (fun ⟨q,q1,q2,q3,q4⟩=>⟨q,q1,q2,q3,q4.other (by omega)⟩)
    obtain ⟨W1,hW1⟩:∃ W,w9.setCell ⟨ob,0,none⟩ (.slice ad9 (n - 1) c9)=W:=⟨_,rfl⟩
    rw [hW1] at HE1 HY1 HR1 HT1 ⊢
    clear hW1 y9 z9 y8 z8 y6 z6 yd ya HS9 HB9 HT9 HS8 HB8 HO8
    have y0:=cell_hp HY1.out 0
    have r0:=cell_hp HR1.out 0
    have rf:=frozen_hp HR1.out 0
    simp at y0 r0
    have HFN:=hid ((HE1.out.set (b:=tb+1) (i:=0) (.slice ad9 (n - 1) c9) htb1).fin (ad:=ad9) (c:=c9) (HT1.out.imp id (fun ⟨q,q1,q2,q3,q4⟩=>⟨q,q1,q3,q4.other (by omega)⟩)) HLC.out (HOK.out.cut k))
    go_wp2
    refine bodyPost_ret (v:=.agg #[.slice ad9 (n - 1) c9]) (by simp [results,Tryz.results40,go_sem,r0]) rfl ⟨_,rfl,HFN.out.1.mono (by omega),?_,HFN.out.2.2⟩
    obtain ⟨p9,h1,h2⟩:=HFN.out.2.1
    exact ⟨p9,by omega,h2⟩
end Go.Proofs.YtabbahpalemlhaaGreatDoor
