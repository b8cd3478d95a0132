import Derived.OwnWalk
import Derived.Test.YtbkmglknbflkhaaGreatDoorJ06
namespace Go.Proofs.YtbkmglknbflkhaaGreatDoor.C
open Go.RowKit
set_option maxRecDepth 20000
set_option maxHeartbeats 4000000 in
theorem gives_9 (fns:List Fn) (f:Fn) (m:Nat) (n:Int) (tx:ByteArray) (sl sk:List Int) (w:World) (cv pv iv av bv:Value) (h1:FnsRow w cv fns) (h2:IntRow w pv f.params) (h3:InsRow w iv f.ins) (h4:IntRow w av sl) (h5:IntRow w bv sk) (hn:sk.length≤1000) (hmn:m < fns.length) (hm:(m:Int) < (fns.length:Int)) (hpl:(fns.getD m fn0).params.length≤8) :
  Calls Tryz.prog 110 #[.agg #[cv],.agg #[.string f.name,pv,.int .i64 f.result,.int .i64 f.slots,iv],.agg #[.int .i64 9,.int .i64 (m:Int),.int .i64 n,.string tx],.agg #[.int .i64 1,av,bv]] w (GvEnd fns f ⟨9,(m:Int),n,tx⟩ sl sk w):=by
 obtain ⟨adA,cA,rfl⟩:=h4.sl
 obtain ⟨adB,cB,rfl⟩:=h5.sl
 have HX:=hid (boxes (i:=⟨9,(m:Int),n,tx⟩) h1 h2 h3 h4 h5)
 have HTK:Hid (takesN fns ⟨9,(m:Int),n,tx⟩=(fns.getD m fn0).params.length):=hid (by simp [takesN])
 have HEF:Hid (∀ tk,eff fns f ⟨9,(m:Int),n,tx⟩ sl tk=whn (tk=(fns.getD m fn0).params) (if (fns.getD m fn0).result=0 then [] else [(fns.getD m fn0).result])):=hid (by intro tk;simp [eff,whn])
 clear h1 h2 h3 h4 h5
 go_enter Tryz.func110,Tryz.ntmps110
 go_upto_region 1 with fail
 obtain ⟨W,hW⟩:∃ W,((((w.alloc (.cells #[cv] 59)).alloc (.cells #[.string f.name,pv,.int .i64 f.result,.int .i64 f.slots,iv] 125)).alloc (.cells #[.int .i64 9,.int .i64 (m:Int),.int .i64 n,.string tx] 103)).alloc (.cells #[.int .i64 1,.slice adA sl.length cA,.slice adB sk.length cB] 121))=W:=⟨_,rfl⟩
 have HX2:Hid _:=hid (hW ▸ HX.out)
 rw [hW]
 clear hW HX
 have x0:=HX2.out.i0
 have x1:=HX2.out.i1
 have y1:=HX2.out.s1
 have y2:=HX2.out.s2
 go_upto_if 26 with fail
 go_cut [12] (fun v wx=>v=.int .i64 (tp sk)∧wx=W)
 case first =>
  by_cases hp:0 < sk.length
  ·obtain ⟨g,c,e9,_,_,_,hc⟩:=HX2.out.sk_.at hp
   injection e9 with ea _ ec
   subst ea ec
   have hpi:(0:Int) < (sk.length:Int):=by omega
   have hwr:IntKind.i64.wrap ((sk.length:Int) - 1)=((sk.length - 1:Nat):Int):=by rw [IntKind.wrap_i64];omega
   have hlt:((sk.length - 1:Nat):Int) < (sk.length:Int):=by omega
   have hct:=hc (sk.length - 1) (by omega)
   rw [tp_at hp] at hct
   clear hc
   go_wp2_with fail
   go_meet
   case rel=>exact ⟨rfl,rfl⟩
  ·have hpi:¬ (0:Int) < (sk.length:Int):=by omega
   have HT:=hid (tp_none hp)
   clear hp
   go_wp2_with fail
   go_meet
   case rel=>exact ⟨by rw [HT.out],rfl⟩
 case rest =>
  obtain ⟨rfl,rfl⟩:=hcut
  go_upto_if 34 with fail
  go_cut [13] (fun v wx=>v=.int .i64 (bw sk)∧wx=wc)
  case first =>
   by_cases hp:1 < sk.length
   ·obtain ⟨g,c,e9,_,_,_,hc⟩:=HX2.out.sk_.at (i:=0) (by omega)
    injection e9 with ea _ ec
    subst ea ec
    have hpi:(1:Int) < (sk.length:Int):=by omega
    have hwr:IntKind.i64.wrap ((sk.length:Int) - 2)=((sk.length - 2:Nat):Int):=by rw [IntKind.wrap_i64];omega
    have hlt:((sk.length - 2:Nat):Int) < (sk.length:Int):=by omega
    have hct:=hc (sk.length - 2) (by omega)
    rw [bw_at hp] at hct
    clear hc
    go_wp2_with fail
    go_meet
    case rel=>exact ⟨rfl,rfl⟩
   ·have hpi:¬ (1:Int) < (sk.length:Int):=by omega
    have HT:=hid (bw_none hp)
    clear hp
    go_wp2_with fail
    go_meet
    case rel=>exact ⟨by rw [HT.out],rfl⟩
  case rest =>
   obtain ⟨rfl,hwc⟩:=hcut
   subst hwc
   obtain ⟨gF,cF,rfl,hgF,pw,jw,d0,d1,d2,d3,d4,d5,d6⟩:=HX2.out.code.at hmn
   obtain ⟨G,hG⟩:∃ G,fns.getD m fn0=G:=⟨_,rfl⟩
   rw [hG] at d0 d2 d3 d5 d6 HTK HEF hpl
   clear hG
   obtain ⟨adP,cP,rfl⟩:=d5.sl
   obtain ⟨adJ,cJ,rfl⟩:=d6.sl
   have z0:=HX2.out.c0
   have HD5:=hid d5
   clear d5 d6
   go_upto_region 32 with fail
   have HBN:=hid ((Below.refl wc.heap.size wc).alloc (Nat.le_refl _) (.cells #[.string G.name,.slice adP G.params.length cP,.int .i64 G.result,.int .i64 G.slots,.slice adJ G.ins.length cJ] 125))
   have v1:(wc.alloc (.cells #[.string G.name,.slice adP G.params.length cP,.int .i64 G.result,.int .i64 G.slots,.slice adJ G.ins.length cJ] 125)).cell? ⟨wc.heap.size,1,none⟩=some (.slice adP G.params.length cP):=cell_new_row wc #[.string G.name,.slice adP G.params.length cP,.int .i64 G.result,.int .i64 G.slots,.slice adJ G.ins.length cJ] 125 1
   have v2:(wc.alloc (.cells #[.string G.name,.slice adP G.params.length cP,.int .i64 G.result,.int .i64 G.slots,.slice adJ G.ins.length cJ] 125)).cell? ⟨wc.heap.size,2,none⟩=some (.int .i64 G.result):=cell_new_row wc #[.string G.name,.slice adP G.params.length cP,.int .i64 G.result,.int .i64 G.slots,.slice adJ G.ins.length cJ] 125 2
   have hwz:wc.heap.size < (wc.alloc (.cells #[.string G.name,.slice adP G.params.length cP,.int .i64 G.result,.int .i64 G.slots,.slice adJ G.ins.length cJ] 125)).heap.size:=by simp
   have HX3:=hid (HX2.out.next HBN.out)
   have HP3:=hid (HD5.out.next HBN.out)
   obtain ⟨V,hV⟩:∃ V,wc.alloc (.cells #[.string G.name,.slice adP G.params.length cP,.int .i64 G.result,.int .i64 G.slots,.slice adJ G.ins.length cJ] 125)=V:=⟨_,rfl⟩
   rw [hV] at v1 v2 HX3 HP3 hwz ⊢
   clear hV HBN HX2 HD5 x0 x1 y1 y2 z0 d0 d1 d2 d3 d4
   obtain ⟨bN,hbN⟩:∃ b,wc.heap.size=b:=⟨_,rfl⟩
   rw [hbN] at v1 v2 hwz ⊢
   clear hbN
   by_cases hle:G.params.length≤sk.length
   ·have hlei:¬ (sk.length:Int) < (G.params.length:Int):=by omega
    have y2:=HX3.out.s2
    go_wp2_with fail
    go_loopw [21] (fun a wr=>∃ j:Nat,j≤G.params.length∧a=.int .i64 j∧Below V.heap.size V wr∧∀ i,i < j→sk.getD (sk.length - G.params.length+i) 0=G.params.getD i 0) (fun a _=>G.params.length - (intOf a).toNat)
    case atStart=>exact ⟨0,Nat.zero_le _,rfl,Below.refl _ _,fun i hi=>absurd hi (Nat.not_lt_zero _)⟩
    case round =>
     obtain ⟨j,hj,rfl,hbr,hsame⟩:=hrel
     have HBR:=hid hbr
     have HSM:=hid hsame
     have HXB:=hid (HX3.out.lo.trans (HBR.out.mono HX3.out.lo.size))
     clear hbr hsame
     by_cases hlt:j < G.params.length
     ·have hlti:(j:Int) < (G.params.length:Int):=by omega
      obtain ⟨gS,cS,e9,_,_,hgS,hcS⟩:=(HX3.out.next HBR.out).sk_.at (i:=0) (by omega)
      injection e9 with ea _ ec
      subst ea ec
      obtain ⟨gP,cP2,e9,_,_,hgP,hcP⟩:=(HP3.out.next HBR.out).at (i:=j) (by omega)
      injection e9 with ea _ ec
      subst ea ec
      have kS:=hcS (sk.length - G.params.length+j) (by omega)
      have kP:=hcP j (by omega)
      have y2r:=(HX3.out.next HBR.out).s2
      have v1r:=(HBR.out.cell (p:=⟨bN,1,none⟩) hwz).trans v1
      have hw1:IntKind.i64.wrap ((sk.length:Int) - (G.params.length:Int))=((sk.length - G.params.length:Nat):Int):=by rw [IntKind.wrap_i64];omega
      have hw2:IntKind.i64.wrap (((sk.length - G.params.length:Nat):Int)+(j:Int))=((sk.length - G.params.length+j:Nat):Int):=by rw [IntKind.wrap_i64];omega
      have hl1:((sk.length - G.params.length+j:Nat):Int) < (sk.length:Int):=by omega
      have hl2:sk.length - G.params.length+j < sk.length:=by omega
      obtain ⟨x,hx⟩:∃ x,sk.getD (sk.length - G.params.length+j) 0=x:=⟨_,rfl⟩
      obtain ⟨y,hy⟩:∃ y,G.params.getD j 0=y:=⟨_,rfl⟩
      rw [hx] at kS
      rw [hy] at kP
      have HXX:=hid hx
      have HYY:=hid hy
      clear hx hy hcS hcP
      by_cases hxy:x=y
      ·subst hxy
       have hxf:(x != x)=false:=by simp
       go_wp2_with fail
       go_quiet (fail)
       go_wp2
       go_roundw
       case rel =>
        refine ⟨j+1,by omega,by go_num,below_drewN HBR.out _,fun i hi=>?_⟩
        by_cases e:i=j
        ·subst e;rw [HXX.out,HYY.out]
        ·exact HSM.out i (by omega)
       case measure=>simp [intOf];omega
      ·have hxf:(x != y)=true:=by simpa using hxy
       have HNE:=hid hxy
       clear hxy
       go_wp2_with fail
       go_quiet (fail)
       go_wp2
       go_ret3
       refine gv_bad (k:=0) ((below_drewN HXB.out _).alloc (below_drewN HXB.out _).size _) (by decide) (.inl rfl) (fun h=>?_)
       rw [HEF.out,HTK.out]
       refine if_neg fun h9=>HNE.out ?_
       rw [← HXX.out,← HYY.out]
       exact drop_at h9 j
     ·obtain rfl:j=G.params.length:=by omega
      have v2r:=(HBR.out.cell (p:=⟨bN,2,none⟩) hwz).trans v2
      have HEND:Hid (eff fns f ⟨9,(m:Int),n,tx⟩ sl (sk.drop (sk.length - takesN fns ⟨9,(m:Int),n,tx⟩))=some (if G.result=0 then [] else [G.result])):=hid (by rw [HEF.out,HTK.out];exact if_pos (drop_eq hle HSM.out))
      by_cases hr0:G.result=0
      ·have hrf:(G.result == 0)=true:=by simpa using hr0
       have HE2:=hid (HEND.out.trans (by rw [if_pos hr0]))
       clear hr0
       go_wp2
       go_ret3
       exact gv_ok (k:=G.params.length) (HXB.out.alloc HXB.out.size _) (by omega) HTK.out.symm hle HE2.out (row0 _)
      ·have hrf:(G.result == 0)=false:=by simpa using hr0
       have HE2:=hid (HEND.out.trans (by rw [if_neg hr0]))
       clear hr0
       go_wp2_with fail
       go_region
       all_goals
        go_wp2
        go_ret3
        exact gv_ok (k:=G.params.length) (HXB.out.alloc HXB.out.size _).drew (by omega) HTK.out.symm hle HE2.out ((row1 _ _).next (Below.refl _ _).drew)
   ·have hlei:(sk.length:Int) < (G.params.length:Int):=by omega
    go_wp2
    go_ret3
    exact gv_bad (k:=0) (HX3.out.lo.alloc HX3.out.lo.size _) (by decide) (.inl rfl) (fun h=>by rw [HTK.out] at h;omega)
end Go.Proofs.YtbkmglknbflkhaaGreatDoor.C
