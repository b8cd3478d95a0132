import Derived.Deep.RegionHeld3
import Derived.Deep.DeepCutAuto
import Derived.Test.YtabbahpalemlhaaGreatDoorJ29
namespace Go.Proofs.YtabbahpalemlhaaGreatDoor
open Go.RowKit
set_option maxRecDepth 20000
def DefEnd (R G:Nat) (ns:List (ByteArray × Int)) (fs:List Fn) (P:Nat) (w:World) (e:Ending) (w2:World):Prop:=∃ g n c fs',e=.returned (.slice (some ⟨g,0,none⟩) n c)∧Has 260 w2 (.slice (some ⟨g,0,none⟩) n c)∧GS R G ns fs' (P+3000) w2∧fs'.length≤fs.length+2∧Gd R w w2
set_option maxHeartbeats 16000000 in
theorem def_any (R G P:Nat) (w:World) (ns:List (ByteArray × Int)) (fs:List Fn) (name:ByteArray) (h:GS R G ns fs P w) (hP:P+4000≤1000000) (hn:ns.length≤10000) (hf:fs.length≤900) (hnm:name.size≤100) :
  Calls Tryz.prog 82 #[.pointer (some ⟨G,0,none⟩),.string name,.int .i64 3] w (DefEnd R G ns fs P w):=by
 have HG:=hid h
 have x0:=h.g0
 have hRw:R < w.heap.size:=by obtain ⟨c0,sz0,p0,g0,_⟩:=h;exact g0.rd.lt
 have HFO:Hid (∀ x ∈ fs,FnOk w x):=by obtain ⟨c0,sz0,p0,g0,_⟩:=h;exact g0.fok
 clear h
 obtain ⟨i0,hi0,hz0,hz1,hz2⟩:=info_parts info_ns
 have HHI:=hid (And.intro hi0 (And.intro hz0 (And.intro hz1 hz2)))
 clear hi0 hz0 hz1 hz2
 obtain ⟨i1,hi1,hz3,hz4,hz5⟩:=info_parts info_sn
 have HH1:=hid (And.intro hi1 (And.intro hz3 (And.intro hz4 hz5)))
 clear hi1 hz3 hz4 hz5
 obtain ⟨i2,hi2,hz6,hz7,hz8⟩:=info_parts info_in
 have HH2:=hid (And.intro hi2 (And.intro hz6 (And.intro hz7 hz8)))
 clear hi2 hz6 hz7 hz8
 obtain ⟨i3,hi3,hz9,hzA,hzB⟩:=info_parts info_fn
 have HH3:=hid (And.intro hi3 (And.intro hz9 (And.intro hzA hzB)))
 clear hi3 hz9 hzA hzB
 go_enter Tryz.func82,Tryz.ntmps82
 go_wp2_with fail
 refine (pick_gs HG.out (by omega) 5 (by omega)).mono ?_
 rintro e w1 ⟨kd,rfl,_,gs1,gk1⟩
 obtain ⟨vf,hvF,hdi⟩:=DI.start name kd gs1 gk1 hRw
 have HD2:=hid hdi
 have hFw:w.heap.size≤w1.heap.size:=gk1.size
 clear gs1 gk1 hdi x0
 go_upto_region 3 with fail
 obtain ⟨F,hF⟩:∃ F,w1.heap.size=F:=⟨_,rfl⟩
 obtain ⟨W2,hW2⟩:∃ W,(w1.alloc (.cells #[.string name,.slice none 0 0,.int .i64 0,.int .i64 kd] 129)).alloc (.cells #[] 48)=W:=⟨_,rfl⟩
 rw [hW2] at HD2 ⊢
 rw [hF] at hvF HD2 hFw ⊢
 clear hF hW2
 obtain ⟨_,_,_,an,cn,y1,_⟩:=HD2.out.g1
 have y0:=HD2.out.g0
 go_wp2_with fail
 refine (HD2.out.gs1 (by omega) 4 (by omega)).mono ?_
 rintro e w3 ⟨x3,rfl,hx3,d3,_⟩
 have HD3:=hid d3
 have hx4:x3≤3:=by omega
 clear d3 hx3 y0 y1
 go_wp2
 go_loopw [8,10,11,12] (fun pv i _ _ wr=>∃ t f:Nat,t≤x3∧i=.int .i64 ((x3 - t:Nat):Int)∧f≤t∧DI R G F w ns fs name kd vf (t * 18) t t t f (P+1+1+t * 140) pv wr) (fun _ i _ _ _=>(intOf i).toNat)
 case atStart=>exact ⟨0,0,Nat.zero_le _,rfl,Nat.le_refl _,by simpa using HD3.out⟩
 case round =>
  obtain ⟨t,f,ht,rfl,hft,hd⟩:=hrel
  have HD:=hid hd
  obtain ⟨pa,pc,rfl⟩:=hd.psl
  clear hd
  by_cases hlt:t < x3
  ·have hi0:(0:Int) < ((x3 - t:Nat):Int):=by omega
   have y0:=HD.out.g0
   have ht2:t≤2:=by omega
   have htm:t * 140≤280:=by omega
   go_wp2_with fail
   refine (HD.out.gs1 (by omega) 5 (by omega)).mono ?_
   rintro e w4 ⟨k,rfl,hk,d4,_⟩
   have HD4:=hid d4
   clear d4 y0 HD hk
   obtain ⟨pad,pcc,ks,hbx,hks,hown⟩:=HD4.out.bxs
   obtain ⟨z0,z1,z2,z3⟩:=four_at hbx
   clear hbx hks hown
   go_wp2_with fail
   refine (l1Dec_any 17 t _ (by have:(3:Nat) < 10 ^ 18:=(by decide);omega) (by decide)).mono ?_
   rintro e w5 ⟨sd,rfl,hsd,hb5⟩
   have HD5:=hid (HD4.out.next hb5)
   clear hb5 z0 z1 z2 z3 HD4
   obtain ⟨ps,hps⟩:∃ ps:ByteArray,(⟨#[112]⟩:ByteArray) ++ sd=ps:=⟨_,rfl⟩
   have hpz:ps.size≤100:=by rw [← hps,ByteArray.size_append];show 1+sd.size≤100;omega
   go_upto_region 9 with fail
   clear hps hsd
   have HD6:=hid (HD5.out.next ((Below.refl w5.heap.size w5).alloc (Nat.le_refl _) (.cells #[.int .i64 19,.int .i64 0,.int .i64 0,.string ps,.int .i64 0] 81)))
   have HB6:=hid (heap_alloc_new w5 (.cells #[.int .i64 19,.int .i64 0,.int .i64 0,.string ps,.int .i64 0] 81))
   obtain ⟨pb,hpb⟩:∃ g,w5.heap.size=g:=⟨_,rfl⟩
   obtain ⟨W6,hW6⟩:∃ W,w5.alloc (.cells #[.int .i64 19,.int .i64 0,.int .i64 0,.string ps,.int .i64 0] 81)=W:=⟨_,rfl⟩
   rw [hW6] at HD6 HB6 ⊢
   rw [hpb] at HB6 ⊢
   clear hpb hW6 HD5
   obtain ⟨pad6,pc6,ks6,hbx6,_,_⟩:=HD6.out.bxs
   obtain ⟨z0,z1,z2,z3⟩:=four_at hbx6
   clear hbx6
   go_cut [56] (fun b wx=>∃ bb:Bool,b=.bool bb∧DI R G F w ns fs name kd vf (t * 18) t t t f (P+1+1+t * 140+1+1) (.slice pa t pc) wx∧wx.heap[pb]?=some (.cells #[.int .i64 19,.int .i64 0,.int .i64 0,.string ps,.int .i64 0] 81 (0,0)))
   case first =>
    by_cases hf0:f=0
    ·subst hf0
     have y0:=HD6.out.g0
     go_wp2_with fail
     refine (HD6.out.gs1 (by omega) 3 (by omega)).mono ?_
     rintro e w7 ⟨x7,rfl,hx7,d7,gk7⟩
     have HD7:=hid d7
     have HB7:=hid ((gk7.block _ _ _ _ HB6.out (by unfold GenT;decide)).trans HB6.out)
     clear d7 gk7 y0 hx7 HD6 HB6 z0 z1 z2 z3
     go_wp2_with fail
     go_meet
     case rel=>exact ⟨_,rfl,HD7.out,HB7.out⟩
    ·have hfi:(0:Int) < (f:Int):=by omega
     go_wp2_with fail
     go_meet
     case rel=>exact ⟨_,rfl,HD6.out.mono (by omega),HB6.out⟩
   case rest =>
    obtain ⟨bb,rfl,d7,hb7⟩:=hcut
    have HD7:=hid d7
    have HB7:=hid hb7
    clear d7 hb7 HD6 HB6 z0 z1 z2 z3
    obtain ⟨w7,hw7⟩:∃ w7,wc=w7:=⟨_,rfl⟩
    rw [hw7] at HD7 HB7 ⊢
    clear hw7
    go_upto_if 56 with fail
    go_cut [8] (fun pv wx=>∃ (f':Nat) (pa':Option Addr) (pc':Nat),f'≤t+1∧pv=.slice pa' (t+1) pc'∧DI R G F w ns fs name kd vf (t * 18+18) (t+1) t t f' (P+1+1+t * 140+138) pv wx∧wx.heap[pb]?=some (.cells #[.int .i64 19,.int .i64 0,.int .i64 0,.string ps,.int .i64 0] 81 (0,0)))
    case first =>
     cases bb
     ·obtain ⟨p0,p1,p2,p3,p4⟩:=five_at HB7.out
      have HAL:=hid (((Below.refl w7.heap.size w7).alloc (Nat.le_refl _) (.cells #[.int .i64 19,.int .i64 0,.int .i64 0,.string ps,.int .i64 0] 81)).alloc (by simp) (.cells #[.slice (some ⟨w7.heap.size,0,none⟩) 1 1] 48))
      have HDA:=hid (HD7.out.next HAL.out)
      have HBA:=hid (hp_next HB7.out HAL.out)
      have HLA:Hid (Has 1 ((w7.alloc (.cells #[.int .i64 19,.int .i64 0,.int .i64 0,.string ps,.int .i64 0] 81)).alloc (.cells #[.slice (some ⟨w7.heap.size,0,none⟩) 1 1] 48)) (.slice (some ⟨w7.heap.size,0,none⟩) 1 1)):=⟨[⟨19,0,0,ps,0⟩],(nd_one w7 ⟨19,0,0,ps,0⟩).next ((Below.refl _ _).alloc (Nat.le_refl _) _),NdOk.one (by show ps.size≤1000;omega)⟩
      have hwz:w.heap.size≤w7.heap.size:=HD7.out.gd.size
      obtain ⟨xs,ls,q1,q2,q3,q4,q5⟩:=HDA.out.parts
      have HQ2:=hid q2
      have HQ4:=hid q4
      have HQ5:=hid q5
      clear q2 q4 q5
      go_wp2_with (at_builtin;refine wpList_append_own _ rfl _ _ 93 rfl w.heap.size 48 i0 (.slice none 0 0) 1 24 Tryz.underlying93 HHI.out.1 HHI.out.2.1 HHI.out.2.2.1 HHI.out.2.2.2 rfl (by decide) _ _ xs rfl HQ2.out ⟨w7.heap.size+1,0,none⟩ 1 1 [.slice (some ⟨w7.heap.size,0,none⟩) 1 1] rfl rfl ?c1 ?c2 ?c3 ?c4 ?c5 ?_)
      case c1 =>
       intro j u hj
       match j,hj with
       | 0,hj=>simp at hj;subst hj;have:=cell_new_row (w7.alloc (.cells #[.int .i64 19,.int .i64 0,.int .i64 0,.string ps,.int .i64 0] 81)) #[.slice (some ⟨w7.heap.size,0,none⟩) 1 1] 48 0;rw [World.size_alloc] at this;exact this
      case c2=>intro u hu;simp at hu;subst hu;rfl
      case c3=>unfold maxLen;omega
      case c4=>omega
      case c5=>simp;omega
      intro vz wz oz gz _
      have HDz:=hid (HDA.out.parted q1 q3 HQ4.out HQ5.out HQ2.out HLA.out gz oz)
      have HBz:=hid (nd_grown HBA.out HQ2.out (by decide) gz)
      clear oz gz
      obtain ⟨pa8,pc8,hv8⟩:=HDz.out.psl
      subst hv8
      go_wp2_with fail
      go_meet
      case rel=>exact ⟨f,pa8,pc8,by omega,rfl,(HDz.out.mono (by omega)).nmono (by omega),HBz.out⟩
     ·have HK:Hid (∀ V:World,V.heap[pb]?=some (.cells #[.int .i64 19,.int .i64 0,.int .i64 0,.string ps,.int .i64 0] 81 (0,0))→V.cell? ⟨pb,0,none⟩=some (.int .i64 19)∧V.cell? ⟨pb,1,none⟩=some (.int .i64 0)∧V.cell? ⟨pb,2,none⟩=some (.int .i64 0)∧V.cell? ⟨pb,3,none⟩=some (.string ps)∧V.cell? ⟨pb,4,none⟩=some (.int .i64 0)):=fun V h=>five_at h
      have HDd:=hid (HD7.out.next (Below.refl w7.heap.size w7).drew)
      have HBd:=hid (hp_next HB7.out (Below.refl w7.heap.size w7).drew)
      obtain ⟨p0,p1,p2,p3,p4⟩:=HK.out _ HB7.out
      go_wp2_with fail
      go_region_held3 (fun V=>V.cell? ⟨pb,0,none⟩=some (.int .i64 19)∧V.cell? ⟨pb,1,none⟩=some (.int .i64 0)∧V.cell? ⟨pb,2,none⟩=some (.int .i64 0)∧V.cell? ⟨pb,3,none⟩=some (.string ps)∧V.cell? ⟨pb,4,none⟩=some (.int .i64 0)) (first | (exact HK.out _ HBz.out) | (exact HK.out _ HBy.out) | (exact HK.out _ HBx.out) | go_keep) (first
       | (go_at_call 83;refine (HDd.out.gse e_one (by omega) (by omega) (by omega) _).mono ?_;rintro e wx ⟨gx,nx,kx,rfl,lx,dx,gkx⟩;have HDx:=hid dx;have HLx:=hid lx;have HBx:=hid ((gkx.block _ _ _ _ HBd.out (by unfold GenT;decide)).trans HBd.out);clear lx dx gkx)
       | (go_at_call 61;refine (HDx.out.put1 ⟨19,0,0,ps,0⟩ _ HLx.out (by show ps.size≤1000;omega) (by omega)).mono ?_;rintro e wy ⟨gy,ny,ky,rfl,ly,dy,by_⟩;have HDy:=hid (dy.next ((Below.refl wy.heap.size wy).alloc (Nat.le_refl _) (.cells #[.slice (some ⟨gy,0,none⟩) ny ky] 48)));have HLy:=hid (ly.gk (Gk.of_below (B:=0) ((Below.refl wy.heap.size wy).alloc (Nat.le_refl _) (.cells #[.slice (some ⟨gy,0,none⟩) ny ky] 48)) (Nat.zero_le _)));have HBy:=hid (hp_next HBx.out by_);have HBy2:=hid (hp_next HBy.out ((Below.refl wy.heap.size wy).alloc (Nat.le_refl _) (.cells #[.slice (some ⟨gy,0,none⟩) ny ky] 48)));have HWy:=hid (Nat.le_trans dy.gd.size (Nat.le_succ _));have hpy:=HDy.out.parts;obtain ⟨xs,ls,q1,q2,q3,q4,q5⟩:=hpy;have HQ2:=hid q2;have HQ4:=hid q4;have HQ5:=hid q5;clear ly dy by_ q2 q4 q5)
       | (refine step_append_own_at rfl (.tmp 57) (.tmp 64) 93 rfl w.heap.size 48 i0 (.slice none 0 0) 1 24 Tryz.underlying93 HHI.out.1 HHI.out.2.1 HHI.out.2.2.1 HHI.out.2.2.2 rfl (by decide) (.slice pa t pc) t xs (by simp [Act.eval]) HQ2.out ⟨wy.heap.size,0,none⟩ 1 1 [.slice (some ⟨gy,0,none⟩) ny ky] (by simp [Act.eval]) rfl (cell_one_new _ _ _) (by simp [Value.oneCell']) (by unfold maxLen;omega) (by omega) (by rw [World.size_alloc];exact HWy.out) ?_;intro vz wz oz gz nz bz;have HDz:=hid (HDy.out.parted q1 q3 HQ4.out HQ5.out HQ2.out HLy.out gz oz);have HBz:=hid (nd_grown HBy2.out HQ2.out (by decide) gz);clear oz gz nz bz) | fail)
      try clear hfi
      clear p0 p1 p2 p3 p4 HK HDd HBd HDx HLx HBx HDy HLy HBy HBy2 HWy HQ2 HQ4 HQ5
      obtain ⟨pa8,pc8,hv8⟩:=HDz.out.psl
      subst hv8
      obtain ⟨pad8,pcc8,ks8,hbx8,hks8,hown8⟩:=HDz.out.bxs
      obtain ⟨z0,z1,z2,z3⟩:=four_at hbx8
      have zf:=frozen_hp hbx8 2
      have hwf:IntKind.i64.wrap ((f:Int)+1)=(f:Int)+1:=by rw [IntKind.wrap_i64];omega
      have HD9:=hid (HDz.out.boxed hFw hvF (i:=2) (v:=.int .i64 ((f:Int)+1)) (f':=f+1) rfl hbx8 hks8 hown8)
      have HB9:Hid ((wz.setCell ⟨F,2,none⟩ (.int .i64 ((f:Int)+1))).heap[pb]?=some (.cells #[.int .i64 19,.int .i64 0,.int .i64 0,.string ps,.int .i64 0] 81 (0,0))):=by
       refine (Below.heap_setCell _ _ _ _ (fun e=>?_)).trans HBz.out
       have e':pb=F:=e
       have hq:=HBz.out
       rw [e',hbx8] at hq
       cases hq
      clear hbx8 hks8 hown8
      go_wp2_with fail
      go_meet
      case rel=>exact ⟨f+1,pa8,pc8,by omega,rfl,(HD9.out.mono (by omega)).nmono (by omega),HB9.out⟩
    case rest =>
     obtain ⟨f9,pa9,pc9,hf9,rfl,d9,hb9⟩:=hcut
     have HD9:=hid d9
     have HB9:=hid hb9
     clear d9 hb9
     obtain ⟨ns2,hl2,hgs2,an2,cn2,y1,yf,hown2⟩:=HD9.out.g1
     have HBV:=hid (((Below.refl wc.heap.size wc).alloc (Nat.le_refl _) (.cells #[.string ps,.int .i64 k] 123)).drew)
     have HDV:=hid (HD9.out.next HBV.out)
     have HGV:=hid (hgs2.next HBV.out)
     have HOV:=hid (own_below hown2 HBV.out)
     have HYV:Hid ((wc.alloc (.cells #[.string ps,.int .i64 k] 123)).drew.cell? ⟨G,1,none⟩=some (.slice an2 (ns.length+t) cn2)):=by
      obtain ⟨c0,sz0,p0,g0,_⟩:=hgs2
      obtain ⟨_,_,e1,_,_⟩:=g0.ex
      exact (HBV.out.cell (p:=⟨G,1,none⟩) (Array.getElem?_eq_some_iff.1 e1).1).trans y1
     have hRwc:R≤wc.heap.size:=hgs2.bw
     have HPV:=hid (hp_next HB9.out HBV.out)
     have p3:=(five_at HB9.out).2.2.2.1
     have HLN:Hid ((ns ++ ns2).length=ns.length+t):=by show _=_;rw [List.length_append,hl2]
     have HGH:Hid (∃ cs,(wc.alloc (.cells #[.string ps,.int .i64 k] 123)).drew.heap[G]?=some (.cells cs 102 (0,0))):=by
      obtain ⟨c0,sz0,p0,g0,_⟩:=HGV.out
      obtain ⟨_,_,e1,_,_⟩:=g0.ex
      exact ⟨_,e1⟩
     have HKS:Hid (∀ V:World,(wc.alloc (.cells #[.string ps,.int .i64 k] 123)).drew.grownBy V (Value.slice an2 (ns.length+t) cn2).ownBlock→V.cell? ⟨G,1,none⟩=some (.slice an2 (ns.length+t) cn2)∧V.frozen? ⟨G,1,none⟩=false∧V.cell? ⟨pb,3,none⟩=some (.string ps)):=fun V hV=>by
      obtain ⟨cs,hcs⟩:=HGH.out
      have hG:V.heap[G]?=(wc.alloc (.cells #[.string ps,.int .i64 k] 123)).drew.heap[G]?:=hV.block G (Array.getElem?_eq_some_iff.1 hcs).1 fun e=>by
       obtain ⟨_,cur,hc⟩:=own_lo HOV.out G e.symm
       rw [hcs] at hc
       cases hc
      refine ⟨(World.cell?_of_block (a:=⟨G,1,none⟩) (h:=hG)).trans HYV.out,?_,(five_at (nd_grown HPV.out HOV.out (by decide) hV)).2.2.2.1⟩
      rw [World.frozen?_of_block (a:=⟨G,1,none⟩) (h:=hG)]
      exact frozen_hp hcs 1
     have HSV:=hid (HKS.out _ (World.grownBy.refl _ _))
     clear hown2 hgs2
     obtain ⟨s1,s2,s3⟩:=HSV.out
     go_upto_region 13 with fail
     go_cut [] (fun wx=>DI R G F w ns fs name kd vf (t * 18+18) (t+1) (t+1) t f9 (P+1+1+t * 140+138) (.slice pa9 (t+1) pc9) wx)
     case first =>
      go_wp2_with fail
      go_region_law (refine step_append_own_at rfl (.tmp 79) (.tmp 84) 99 rfl R 123 i1 (.agg #[.string ⟨#[]⟩,.int .i64 0]) 2 24 Tryz.underlying99 HH1.out.1 HH1.out.2.1 HH1.out.2.2.1 HH1.out.2.2.2 rfl (by decide) (.slice an2 (ns.length+t) cn2) (ns.length+t) (seenRow (ns ++ ns2)) (by simp [Act.eval]) HOV.out ⟨wc.heap.size,0,none⟩ 1 1 [.string ps,.int .i64 k] (by simp [Act.eval]) rfl (fun j u hj=>cell_two_new wc _ _ _ j u hj) (by simp [Value.oneCell']) (by unfold maxLen;omega) (by omega) (by show R≤(wc.alloc (.cells #[.string ps,.int .i64 k] 123)).heap.size;rw [World.size_alloc];omega) ?_;intro vn wn on gn nn bn;obtain ⟨m1,m2,m3⟩:=HKS.out _ gn;have hvn:=own_sl on;obtain ⟨an3,cn3,rfl⟩:=hvn;have HON:=hid on;have HGR:=hid gn;clear on gn nn bn)
      all_goals (go_wp2_with fail;go_meet;(case rel=>exact HDV.out.named hl2 HGV.out (x:=(ps,(k:Int))) (by show ps.size≤100;exact hpz) HYV.out HGR.out (by rw [HLN.out];exact HON.out)))
     case rest =>
      have HDA:=hid hcut
      clear hcut HD9 HB9 HBV HDV HGV HOV HYV HPV HKS HSV HGH HLN s1 s2 s3 p3 y1 yf
      obtain ⟨wd,hwd⟩:∃ wd,wc=wd:=⟨_,rfl⟩
      rw [hwd] at HDA ⊢
      clear hwd
      obtain ⟨padA,pcA,ksA,hbxA,hksA,hownA⟩:=HDA.out.bxs
      obtain ⟨z0,z1,z2,z3⟩:=four_at hbxA
      have HAL:=hid ((Below.refl wd.heap.size wd).alloc (Nat.le_refl _) (.cells #[.int .i64 k] 3))
      have HDB:=hid (HDA.out.next HAL.out)
      have HBB:=hid (hp_next hbxA HAL.out)
      have HOB:=hid (own_below hownA HAL.out)
      have hwz:w.heap.size≤wd.heap.size:=HDA.out.gd.size
      have hdec:IntKind.i64.wrap (((x3 - t:Nat):Int) - 1)=((x3 - (t+1):Nat):Int):=by rw [IntKind.wrap_i64];omega
      clear hbxA hownA HDA
      go_wp2_with (at_builtin;refine wpList_append_own _ rfl _ _ 82 rfl w.heap.size 3 i2 (.int .i64 0) 1 8 Tryz.underlying82 HH2.out.1 HH2.out.2.1 HH2.out.2.2.1 HH2.out.2.2.2 rfl (by decide) _ _ _ rfl HOB.out ⟨wd.heap.size,0,none⟩ 1 1 [.int .i64 k] rfl rfl ?c1 ?c2 ?c3 ?c4 ?c5 ?_)
      case c1 =>
       intro j u hj
       match j,hj with
       | 0,hj=>simp at hj;subst hj;rw [add_none,cell_new_row];rfl
      case c2=>intro u hu;simp at hu;subst hu;rfl
      case c3=>unfold maxLen;omega
      case c4=>omega
      case c5=>simp;omega
      intro v2 w2 o2 g2 _
      obtain ⟨aq,cq,rfl⟩:=own_sl o2
      obtain ⟨hbx1,hdn⟩:=HDB.out.param hFw hvF HFO.out HBB.out hksA HOB.out g2 o2
      have HDN:=hid hdn
      have u1:=(four_at hbx1).2.1
      have uf:=frozen_hp hbx1 1
      clear z0 z1 z2 z3 o2 g2 hdn hbx1
      have h18:t * 18+18=(t+1) * 18:=by omega
      rw [h18] at HDN
      have HNX:=hid (HDN.out.mono (P':=P+1+1+(t+1) * 140) (by omega))
      clear HDN h18
      go_wp2
      go_roundw
      case rel=>exact ⟨t+1,f9,by omega,rfl,hf9,HNX.out⟩
      case measure=>simp [intOf];omega
  ·have hi0:¬ (0:Int) < ((x3 - t:Nat):Int):=by omega
   have y0:=HD.out.g0
   have htm:t * 140≤420:=by omega
   go_wp2_with fail
   refine (HD.out.gs1 (by omega) 12 (by omega)).mono ?_
   rintro e w4 ⟨k,rfl,hk,d4,_⟩
   have HD4:=hid d4
   clear d4 y0 HD hk hi0
   go_upto_if 99 with fail
   go_cut [] (fun wx=>∃ (fs1:List Fn) (vf1:Value),fs1.length≤fs.length+1∧vf1.ownBlock≠some F∧DI R G F w ns fs1 name kd vf1 (t * 18) t t t f (P+1+1+t * 140+1) (.slice pa t pc) wx)
   case first =>
    by_cases hk0:k=0
    ·subst hk0
     obtain ⟨padB,pcB,ksB,hbxB,hksB,hownB⟩:=HD4.out.bxs
     obtain ⟨z0,z1,z2,z3⟩:=four_at hbxB
     obtain ⟨av,cv,hvs⟩:=own_sl HD4.out.vfl
     subst hvs
     have y2:=HD4.out.vf
     have HBV:=hid (((Below.refl w4.heap.size w4).alloc (Nat.le_refl _) (.cells #[.string name,.slice padB t pcB,.int .i64 (f:Nat),.int .i64 kd] 129)).drew)
     have HDV:=hid (HD4.out.next HBV.out)
     have HOV:=hid HDV.out.vfl
     have HBX:=hid (hp_next hbxB HBV.out)
     have hRW:R≤w4.heap.size:=by obtain ⟨ns9,_,h9⟩:=HD4.out.gs;exact h9.bw
     have hFW:F < w4.heap.size:=(Array.getElem?_eq_some_iff.1 hbxB).1
     have HKS:Hid (∀ U:World,(w4.alloc (.cells #[.string name,.slice padB t pcB,.int .i64 (f:Nat),.int .i64 kd] 129)).drew.grownBy U (Value.slice av fs.length cv).ownBlock→(U.cell? ⟨G,2,none⟩=some (.slice av fs.length cv)∧U.frozen? ⟨G,2,none⟩=false)∧U.cell? ⟨F,0,none⟩=some (.string name)∧U.cell? ⟨F,1,none⟩=some (.slice padB t pcB)∧U.cell? ⟨F,2,none⟩=some (.int .i64 (f:Nat))∧U.cell? ⟨F,3,none⟩=some (.int .i64 kd)):=fun U hU=>by
      obtain ⟨cs,hcs⟩:=(HDV.out.gfr 2).2
      have hG:U.heap[G]?=(w4.alloc (.cells #[.string name,.slice padB t pcB,.int .i64 (f:Nat),.int .i64 kd] 129)).drew.heap[G]?:=hU.block G (Array.getElem?_eq_some_iff.1 hcs).1 fun e=>by
       obtain ⟨_,cur,hc⟩:=own_lo HOV.out G e.symm
       rw [hcs] at hc
       cases hc
      refine ⟨⟨(World.cell?_of_block (a:=⟨G,2,none⟩) (h:=hG)).trans HDV.out.vf,?_⟩,four_at ((hU.block F (Array.getElem?_eq_some_iff.1 HBX.out).1 fun e=>hvF e.symm).trans HBX.out)⟩
      rw [World.frozen?_of_block (a:=⟨G,2,none⟩) (h:=hG)]
      exact (HDV.out.gfr 2).1
     have HNE:Hid (∀ v:Value,(v.ownBlock=(Value.slice av fs.length cv).ownBlock∨v.ownBlock=some (w4.alloc (.cells #[.string name,.slice padB t pcB,.int .i64 (f:Nat),.int .i64 kd] 129)).drew.heap.size)→v.ownBlock≠some F):=fun v hv e=>by
      rcases hv with h | h
      ·rw [e] at h
       exact hvF h.symm
      ·rw [e] at h
       have h':F=(w4.alloc (.cells #[.string name,.slice padB t pcB,.int .i64 (f:Nat),.int .i64 kd] 129)).heap.size:=Option.some.inj h
       rw [World.size_alloc] at h'
       omega
     obtain ⟨⟨s1,s2⟩,s3,s4,s5,s6⟩:=HKS.out _ (World.grownBy.refl _ _)
     clear hbxB hownB
     go_wp2_with fail
     go_region_law (refine step_append_own_at rfl (.tmp 104) (.tmp 106) 100 rfl R 129 i3 (.agg #[.string ⟨#[]⟩,.slice none 0 0,.int .i64 0,.int .i64 0]) 4 56 Tryz.underlying100 HH3.out.1 HH3.out.2.1 HH3.out.2.2.1 HH3.out.2.2.2 rfl (by decide) (.slice av fs.length cv) fs.length (fnRow fs) (by simp [Act.eval]) HOV.out ⟨w4.heap.size,0,none⟩ 1 1 [.string name,.slice padB t pcB,.int .i64 (f:Nat),.int .i64 kd] (by simp [Act.eval]) rfl (fun j u hj=>cell_four_newG w4 _ _ _ _ _ j u hj) (by simp [Value.oneCell']) (by unfold maxLen;omega) (by omega) (by show R≤(w4.alloc (.cells #[.string name,.slice padB t pcB,.int .i64 (f:Nat),.int .i64 kd] 129)).heap.size;rw [World.size_alloc];omega) ?_;intro vn wn on gn nn bn;obtain ⟨⟨m1,m2⟩,m3,m4,m5,m6⟩:=HKS.out _ gn;have hvn:=own_sl on;obtain ⟨an3,cn3,rfl⟩:=hvn;have HON:=hid on;have HGR:=hid gn;have HBN:=hid (HNE.out _ bn);clear on gn nn bn)
     all_goals (go_wp2_with fail;go_meet;(case rel=>exact ⟨fs ++ [⟨name,padB,t,pcB,f,kd⟩],_,by simp,HBN.out,HDV.out.fned hvF hnm (by omega) hft HBX.out HGR.out HON.out⟩))
    ·have hk1:((k:Int) == 0)=false:=by simpa using hk0
     go_wp2_with fail
     go_meet
     case rel=>exact ⟨fs,vf,by omega,hvF,HD4.out⟩
   case rest =>
    obtain ⟨fs1,vf1,hfs1,hvF1,d5⟩:=hcut
    have HD5:=hid d5
    clear d5 HD4
    obtain ⟨w5,hw5⟩:∃ w5,wc=w5:=⟨_,rfl⟩
    rw [hw5] at HD5 ⊢
    clear hw5
    obtain ⟨padC,pcC,ksC,hbxC,_,_⟩:=HD5.out.bxs
    obtain ⟨z0,z1,z2,z3⟩:=four_at hbxC
    clear hbxC
    go_wp2_with fail
    refine (HD5.out.gse e_three (by omega) (by omega) (by omega) _).mono ?_
    rintro e w6 ⟨g6,n6,k6,rfl,l6,d6,_⟩
    have HAL:=hid ((Below.refl w6.heap.size w6).alloc (Nat.le_refl _) (.cells #[.slice (some ⟨g6,0,none⟩) n6 k6] 48))
    have HDA:=hid (d6.next HAL.out)
    have HLA:=hid (l6.gk (Gk.of_below (B:=0) HAL.out (Nat.zero_le _)))
    have hwz:w.heap.size≤w6.heap.size:=d6.gd.size
    obtain ⟨xs,ls,q1,q2,q3,q4,q5⟩:=HDA.out.parts
    have HQ2:=hid q2
    have HQ4:=hid q4
    have HQ5:=hid q5
    clear q2 q4 q5 l6 d6 z0 z1 z2 z3 HD5
    go_wp2_with (at_builtin;refine wpList_append_own _ rfl _ _ 93 rfl w.heap.size 48 i0 (.slice none 0 0) 1 24 Tryz.underlying93 HHI.out.1 HHI.out.2.1 HHI.out.2.2.1 HHI.out.2.2.2 rfl (by decide) _ _ xs rfl HQ2.out ⟨w6.heap.size,0,none⟩ 1 1 [.slice (some ⟨g6,0,none⟩) n6 k6] rfl rfl ?c1 ?c2 ?c3 ?c4 ?c5 ?_)
    case c1 =>
     intro j u hj
     match j,hj with
     | 0,hj=>simp at hj;subst hj;exact cell_new_row w6 _ _ 0
    case c2=>intro u hu;simp at hu;subst hu;rfl
    case c3=>unfold maxLen;omega
    case c4=>omega
    case c5=>simp;omega
    intro vz wz oz gz _
    have HD7:=hid (HDA.out.parted q1 q3 HQ4.out HQ5.out HQ2.out HLA.out gz oz)
    clear oz gz HDA HLA HQ2 HQ4 HQ5 HAL
    obtain ⟨pg,pc8,hv8⟩:=HD7.out.parts.sl (by omega)
    subst hv8
    go_upto_region 18 with fail
    go_cut [] (fun wx=>DI R G F w ns fs1 name kd vf1 (t * 18+185) (t+1) 0 t f (P+1+1+t * 140+1+1455) (.slice (some ⟨pg,0,none⟩) (t+1) pc8) wx)
    case first =>
     obtain ⟨m,an9,cn9,y1,yf,hmc,hcm,hnm2,hno,hsome,d8⟩:=HD7.out.cut
     have HD8:=hid d8
     clear d8
     rcases hsome with rfl | ⟨gn9,rfl⟩
     ·obtain ⟨rfl,rfl⟩:=hno rfl
      obtain rfl:ns=[]:=List.length_eq_zero_iff.1 (by omega)
      go_wp2_with fail
      go_meet
      case rel=>exact HD8.out
     ·have hcm2:cn9≤9223372036854775807:=by unfold maxLen at hcm;simpa using hcm
      have hn2:(ns.length:Int)≤cn9:=by omega
      go_wp2_with fail
      go_meet
      case rel=>exact HD8.out
    case rest =>
     have HD9:=hid hcut
     clear hcut HD7
     obtain ⟨w9,hw9⟩:∃ w9,wc=w9:=⟨_,rfl⟩
     rw [hw9] at HD9 ⊢
     clear hw9
     go_upto_region 19 with fail
     go_cut [149] (fun b wx=>∃ bb:Bool,b=.bool bb∧DI R G F w ns fs1 name kd vf1 (t * 18+185) (t+1) 0 t f (P+1+1+t * 140+1+1455) (.slice (some ⟨pg,0,none⟩) (t+1) pc8) wx)
     case first =>
      have HOV:=hid HD9.out.vfl
      obtain ⟨av,cv,hvs⟩:=own_sl HOV.out
      subst hvs
      have y2:=HD9.out.vf
      by_cases hf0:fs1.length=0
      ·rw [hf0] at y2
       go_wp2_with fail
       go_quiet (fail)
       go_wp2_with fail
       go_meet
       case rel=>exact ⟨_,rfl,HD9.out.next (below_drewN (Below.refl _ _) nq)⟩
      ·obtain ⟨gv,cur,rfl,hcv,hgv,htk⟩:∃ gv cur,av=some ⟨gv,0,none⟩∧fs1.length≤cv∧w9.heap[gv]?=some (.cells cur 129 (0,0))∧cur.toList.take (fs1.length * 4)=fnRow fs1:=by
        rcases HOV.out.2 with ⟨_,hz⟩ | ⟨gv,cap,cur,hv,_,hg,hc,_,_,ht⟩
        ·exact absurd hz hf0
        ·cases hv
         exact ⟨gv,cur,rfl,hc,hg,ht⟩
       obtain ⟨nf,hnf⟩:∃ nf,fs1.length=nf+1:=⟨fs1.length - 1,by omega⟩
       have hfn:=(fnRow_get fs1 nf (by omega)).1
       have k0:w9.cell? ⟨gv,nf * 4,none⟩=some (.string (fs1[nf]'(by omega)).name):=by
        rw [← htk] at hfn
        have hj:=(List.getElem?_eq_some_iff.1 hfn).1
        rw [List.length_take] at hj
        rw [List.getElem?_take_of_lt (by omega)] at hfn
        unfold World.cell?
        rw [hgv]
        simpa using hfn
       obtain ⟨lnm,hlnm⟩:∃ l,(fs1[nf]'(by omega)).name=l:=⟨_,rfl⟩
       rw [hlnm] at k0
       have hnf2:nf≤901:=by omega
       have hwn:IntKind.i64.wrap ((nf+1:Nat) - 1:Int)=(nf:Int):=by rw [IntKind.wrap_i64];omega
       have hwn2:IntKind.i64.wrap ((nf:Int)+1 - 1)=(nf:Int):=by rw [IntKind.wrap_i64];omega
       have hwn3:IntKind.i64.wrap (nf:Int)=(nf:Int):=by rw [IntKind.wrap_i64];omega
       have hne:(((nf+1:Nat):Int) == 0)=false:=by simp;omega
       have hne2:(((nf:Int)+1) == 0)=false:=by simp;omega
       have hlt2:(nf:Int) < ((nf+1:Nat):Int):=by omega
       have hlt3:nf < nf+1:=by omega
       rw [hnf] at y2
       clear hlnm hfn htk hgv hcv hnf HOV hf0
       go_wp2_with fail
       go_quiet (fail)
       go_wp2_with fail
       go_meet
       case rel=>exact ⟨_,rfl,HD9.out.next (below_drewN (Below.refl _ _) nq)⟩
     case rest =>
      obtain ⟨bb,rfl,dA⟩:=hcut
      have HDA:=hid dA
      clear dA HD9
      obtain ⟨wA,hwA⟩:∃ wA,wc=wA:=⟨_,rfl⟩
      rw [hwA] at HDA ⊢
      clear hwA
      go_upto_if 149 with fail
      go_cut [] (fun wx=>∃ (fs2:List Fn) (vf2:Value),fs2.length≤fs.length+2∧vf2.ownBlock≠some F∧DI R G F w ns fs2 name kd vf2 (t * 18+185) (t+1) 0 t f (P+1+1+t * 140+1+1455) (.slice (some ⟨pg,0,none⟩) (t+1) pc8) wx)
      case first =>
       cases bb
       ·go_wp2_with fail
        go_meet
        case rel=>exact ⟨fs1,vf1,by omega,hvF1,HDA.out⟩
       ·obtain ⟨padB,pcB,ksB,hbxB,hksB,hownB⟩:=HDA.out.bxs
        obtain ⟨z0,z1,z2,z3⟩:=four_at hbxB
        obtain ⟨av,cv,hvs⟩:=own_sl HDA.out.vfl
        subst hvs
        have y2:=HDA.out.vf
        have HBV:=hid (((Below.refl wA.heap.size wA).alloc (Nat.le_refl _) (.cells #[.string name,.slice padB t pcB,.int .i64 (f:Nat),.int .i64 kd] 129)).drew)
        have HDV:=hid (HDA.out.next HBV.out)
        have HOV:=hid HDV.out.vfl
        have HBX:=hid (hp_next hbxB HBV.out)
        have hRW:R≤wA.heap.size:=by obtain ⟨ns9,_,h9⟩:=HDA.out.gs;exact h9.bw
        have hFW:F < wA.heap.size:=(Array.getElem?_eq_some_iff.1 hbxB).1
        have HKS:Hid (∀ U:World,(wA.alloc (.cells #[.string name,.slice padB t pcB,.int .i64 (f:Nat),.int .i64 kd] 129)).drew.grownBy U (Value.slice av fs1.length cv).ownBlock→(U.cell? ⟨G,2,none⟩=some (.slice av fs1.length cv)∧U.frozen? ⟨G,2,none⟩=false)∧U.cell? ⟨F,0,none⟩=some (.string name)∧U.cell? ⟨F,1,none⟩=some (.slice padB t pcB)∧U.cell? ⟨F,2,none⟩=some (.int .i64 (f:Nat))∧U.cell? ⟨F,3,none⟩=some (.int .i64 kd)):=fun U hU=>by
         obtain ⟨cs,hcs⟩:=(HDV.out.gfr 2).2
         have hG:U.heap[G]?=(wA.alloc (.cells #[.string name,.slice padB t pcB,.int .i64 (f:Nat),.int .i64 kd] 129)).drew.heap[G]?:=hU.block G (Array.getElem?_eq_some_iff.1 hcs).1 fun e=>by
          obtain ⟨_,cur,hc⟩:=own_lo HOV.out G e.symm
          rw [hcs] at hc
          cases hc
         refine ⟨⟨(World.cell?_of_block (a:=⟨G,2,none⟩) (h:=hG)).trans HDV.out.vf,?_⟩,four_at ((hU.block F (Array.getElem?_eq_some_iff.1 HBX.out).1 fun e=>hvF1 e.symm).trans HBX.out)⟩
         rw [World.frozen?_of_block (a:=⟨G,2,none⟩) (h:=hG)]
         exact (HDV.out.gfr 2).1
        have HNE:Hid (∀ v:Value,(v.ownBlock=(Value.slice av fs1.length cv).ownBlock∨v.ownBlock=some (wA.alloc (.cells #[.string name,.slice padB t pcB,.int .i64 (f:Nat),.int .i64 kd] 129)).drew.heap.size)→v.ownBlock≠some F):=fun v hv e=>by
         rcases hv with h | h
         ·rw [e] at h
          exact hvF1 h.symm
         ·rw [e] at h
          have h':F=(wA.alloc (.cells #[.string name,.slice padB t pcB,.int .i64 (f:Nat),.int .i64 kd] 129)).heap.size:=Option.some.inj h
          rw [World.size_alloc] at h'
          omega
        obtain ⟨⟨s1,s2⟩,s3,s4,s5,s6⟩:=HKS.out _ (World.grownBy.refl _ _)
        clear hbxB hownB
        go_wp2_with fail
        go_region_law (refine step_append_own_at rfl (.tmp 154) (.tmp 156) 100 rfl R 129 i3 (.agg #[.string ⟨#[]⟩,.slice none 0 0,.int .i64 0,.int .i64 0]) 4 56 Tryz.underlying100 HH3.out.1 HH3.out.2.1 HH3.out.2.2.1 HH3.out.2.2.2 rfl (by decide) (.slice av fs1.length cv) fs1.length (fnRow fs1) (by simp [Act.eval]) HOV.out ⟨wA.heap.size,0,none⟩ 1 1 [.string name,.slice padB t pcB,.int .i64 (f:Nat),.int .i64 kd] (by simp [Act.eval]) rfl (fun j u hj=>cell_four_newG wA _ _ _ _ _ j u hj) (by simp [Value.oneCell']) (by unfold maxLen;omega) (by omega) (by show R≤(wA.alloc (.cells #[.string name,.slice padB t pcB,.int .i64 (f:Nat),.int .i64 kd] 129)).heap.size;rw [World.size_alloc];omega) ?_;intro vn wn on gn nn bn;obtain ⟨⟨m1,m2⟩,m3,m4,m5,m6⟩:=HKS.out _ gn;have hvn:=own_sl on;obtain ⟨an3,cn3,rfl⟩:=hvn;have HON:=hid on;have HGR:=hid gn;have HBN:=hid (HNE.out _ bn);clear on gn nn bn)
        all_goals (go_wp2_with fail;go_meet;(case rel=>exact ⟨fs1 ++ [⟨name,padB,t,pcB,f,kd⟩],_,by simp;omega,HBN.out,HDV.out.fned hvF1 hnm (by omega) hft HBX.out HGR.out HON.out⟩))
      case rest =>
       obtain ⟨fs2,vf2,hfs2,_,dB⟩:=hcut
       have HDB:=hid dB
       clear dB HDA
       go_wp2_with fail
       refine (HDB.out.putAll ⟨20,0,0,name,0⟩ rfl (by omega) (by show name.size≤1000;omega) (by omega)).mono ?_
       rintro e wE ⟨gE,nE,kE,rfl,⟨lE,hE1,hE2⟩,dE⟩
       have HDE:=hid dE
       have HLE:Hid (Has 260 wE (.slice (some ⟨gE,0,none⟩) nE kE)):=⟨lE,hE1,hE2.mono (by omega)⟩
       clear hE1 hE2 dE
       go_wp2
       go_ret
       obtain ⟨ns9,h9,hg9⟩:=HDE.out.gs
       obtain rfl:ns9=[]:=List.length_eq_zero_iff.1 h9
       exact ⟨gE,nE,kE,fs2,rfl,HLE.out,(by rw [List.append_nil] at hg9;exact hg9.mono (by omega)),hfs2,HDE.out.gd⟩
end Go.Proofs.YtabbahpalemlhaaGreatDoor
