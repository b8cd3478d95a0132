import Derived.Test.YtbkmglknbflkhaaGreatDoorJ48
namespace Go.Proofs.YtbkmglknbflkhaaGreatDoor.M
open Go.RowKit
open C (In Sh in0 fn0 FnR Least ShRow IntRow InsRow lt_hp cell_hp hp_next)
open Go.Proofs.YtbkmglknbflkhaaGreatDoor.J (Says says_t says_f)
open Go.Proofs.YtbkmglknbflkhaaGreatDoor.R (hid)
set_option maxRecDepth 20000
set_option maxHeartbeats 40000000 in
theorem slots_any (x:R.Mc) {gc gf:Nat} {v1 v2 v4 v5:Value} {w W2:World} {k:Nat} {f:R.Fm} {gs gt bf:Nat} {fn:C.Fn} {aP:Option Addr} {cP gI cI bn gA:Nat} {A:Nat→Sh} {bs:Nat} {a1:Option Addr} {c1:Nat} {a2:Option Addr} {c2:Nat} {K T:List Int} {wa:World} {KK:Act→World→Prop} {y0 y1 y2 y3 y4 y6 y7 y10 y11 y12 y13 y14 y15 y16 y17 y18 y19 y20 y21 y22 y23 y24 y25 y26 y27 y28 y29 y30 y31 y32 y33 y34 y35 y36 y37 y38 y39 y40 y41 y42 y43 y44 y45 y46 y47 y48 y49 y50 y51 y52 y53 y54 y55 y56 y57 y58 y59 y60 y61 y62 y63 y64 y65 y66 y67 y68 y69 y70 y71 y72 y73 y74 y75 y76 y77 y78 y79 y80 y81 y82 y83 y84 y85 y86 y87 y88 y89 y90 y91 y92 y93 y94 y95 y96 y97 y98 y99 y100 y101 y102 y103 y104 y105 y106 y107 y108 y109 y110 y111 y112 y113 y114 y115 y116 y117 y118 y119 y120 y121 y122 y123 y124 y125 y126 y127 y128 y129 y130 y131 y132 y133 y134 y135 y136 y137 y138 y139 y140 y141 y142 y143 y144 y145 y146 y147 y148 y149 y150 y151 y152 y153 y154 y155 y156 y157 y158 y159 y160 y161 y162 y163 y164 y165 y166 y167 y168 y169 y170 y171 y172 y173 y174 y175 y176 y177 y178 y179 y180 y181 y182 y183 y184 y185 y186 y187 y188 y189 y190 y191 y192 y193 y194 y195 y196 y197 y198 y199 y200:Value} (HFX:Hid (fr x k=f)) (HIFF:Hid (FrameOk x k ↔ PlaceOk x k A)) (HKT:Hid ((A (fr x k).pl.toNat).sl=K∧(A (fr x k).pl.toNat).sk=T)) (HVO:Hid (R.OkVaS f.slots∧f.slots.length≤1048576∧R.OkVaS f.stack∧f.stack.length≤1048576)) (HKL:Hid (K.length=f.slots.length)) (HVS2:Hid (R.SVaR (gf+1) W2 (.slice (some ⟨gs,0,none⟩) f.slots.length f.slots.length) f.slots)) (HYa:Hid (FY w x (.slice (some ⟨gc,0,none⟩) x.codes.length x.codes.length) v1 v2 (.slice (some ⟨gf,0,none⟩) x.frames.length x.frames.length) v4 v5 f (.slice (some ⟨gs,0,none⟩) f.slots.length f.slots.length) (.slice (some ⟨gt,0,none⟩) f.stack.length f.stack.length) bf fn (.slice aP fn.params.length cP) (.slice (some ⟨gI,0,none⟩) fn.ins.length cI) bn gA A bs (.slice a1 K.length c1) (.slice a2 T.length c2) K T wa)) (HB2a:Hid (Below W2.heap.size W2 wa))
  (hexit:∀ z4 z63 z64 z65 z66 z67 z68 z69 z70 z71 z72 z73 z74 z75 z76 z77 z78 z79 z80 z81 z82 z83 z84 z85 z86 z87 z88 z89 z90 z91 z92 z93 z94 z95 z96 z97 z98 z99 z100 z101 z102 z103 z104 z105 z106 z107 wo,FY w x (.slice (some ⟨gc,0,none⟩) x.codes.length x.codes.length) v1 v2 (.slice (some ⟨gf,0,none⟩) x.frames.length x.frames.length) v4 v5 f (.slice (some ⟨gs,0,none⟩) f.slots.length f.slots.length) (.slice (some ⟨gt,0,none⟩) f.stack.length f.stack.length) bf fn (.slice aP fn.params.length cP) (.slice (some ⟨gI,0,none⟩) fn.ins.length cI) bn gA A bs (.slice a1 K.length c1) (.slice a2 T.length c2) K T wo→Below W2.heap.size W2 wo→SlotsOk (fr x k).slots (A (fr x k).pl.toNat).sl→KK ⟨List.toArray (y0 :: y1 :: y2 :: y3 :: z4 :: .pointer (some ⟨bf,0,none⟩) :: y6 :: y7 :: .pointer (some ⟨bs,0,none⟩) :: .int .i64 (f.slots.length:Int) :: y10 :: y11 :: y12 :: y13 :: y14 :: y15 :: y16 :: y17 :: y18 :: y19 :: y20 :: y21 :: y22 :: y23 :: y24 :: y25 :: y26 :: y27 :: y28 :: y29 :: y30 :: y31 :: y32 :: y33 :: y34 :: y35 :: y36 :: y37 :: y38 :: y39 :: y40 :: y41 :: y42 :: y43 :: y44 :: y45 :: y46 :: y47 :: y48 :: y49 :: y50 :: y51 :: y52 :: y53 :: y54 :: y55 :: y56 :: y57 :: y58 :: y59 :: y60 :: y61 :: y62 :: z63 :: z64 :: z65 :: z66 :: z67 :: z68 :: z69 :: z70 :: z71 :: z72 :: z73 :: z74 :: z75 :: z76 :: z77 :: z78 :: z79 :: z80 :: z81 :: z82 :: z83 :: z84 :: z85 :: z86 :: z87 :: z88 :: z89 :: z90 :: z91 :: z92 :: z93 :: z94 :: z95 :: z96 :: z97 :: z98 :: z99 :: z100 :: z101 :: z102 :: z103 :: z104 :: z105 :: z106 :: z107 :: y108 :: y109 :: y110 :: y111 :: y112 :: y113 :: y114 :: y115 :: y116 :: y117 :: y118 :: y119 :: y120 :: y121 :: y122 :: y123 :: y124 :: y125 :: y126 :: y127 :: y128 :: y129 :: y130 :: y131 :: y132 :: y133 :: y134 :: y135 :: y136 :: y137 :: y138 :: y139 :: y140 :: y141 :: y142 :: y143 :: y144 :: y145 :: y146 :: y147 :: y148 :: y149 :: y150 :: y151 :: y152 :: y153 :: y154 :: y155 :: y156 :: y157 :: y158 :: y159 :: y160 :: y161 :: y162 :: y163 :: y164 :: y165 :: y166 :: y167 :: y168 :: y169 :: y170 :: y171 :: y172 :: y173 :: y174 :: y175 :: y176 :: y177 :: y178 :: y179 :: y180 :: y181 :: y182 :: y183 :: y184 :: y185 :: y186 :: y187 :: y188 :: y189 :: y190 :: y191 :: y192 :: y193 :: y194 :: y195 :: y196 :: y197 :: y198 :: y199 :: y200 :: []),[]⟩ wo) :
  Code.wp Tryz.prog (Code.loop slotLoop) (Exit.inBlock 0 (Exit.then KK (bodyPost Tryz.prog Tryz.f56 fun e w'=>Says e (FrameOk x k)∧Below w.heap.size w w'))) ⟨List.toArray (y0 :: y1 :: y2 :: y3 :: y4 :: .pointer (some ⟨bf,0,none⟩) :: y6 :: y7 :: .pointer (some ⟨bs,0,none⟩) :: .int .i64 0 :: y10 :: y11 :: y12 :: y13 :: y14 :: y15 :: y16 :: y17 :: y18 :: y19 :: y20 :: y21 :: y22 :: y23 :: y24 :: y25 :: y26 :: y27 :: y28 :: y29 :: y30 :: y31 :: y32 :: y33 :: y34 :: y35 :: y36 :: y37 :: y38 :: y39 :: y40 :: y41 :: y42 :: y43 :: y44 :: y45 :: y46 :: y47 :: y48 :: y49 :: y50 :: y51 :: y52 :: y53 :: y54 :: y55 :: y56 :: y57 :: y58 :: y59 :: y60 :: y61 :: y62 :: y63 :: y64 :: y65 :: y66 :: y67 :: y68 :: y69 :: y70 :: y71 :: y72 :: y73 :: y74 :: y75 :: y76 :: y77 :: y78 :: y79 :: y80 :: y81 :: y82 :: y83 :: y84 :: y85 :: y86 :: y87 :: y88 :: y89 :: y90 :: y91 :: y92 :: y93 :: y94 :: y95 :: y96 :: y97 :: y98 :: y99 :: y100 :: y101 :: y102 :: y103 :: y104 :: y105 :: y106 :: y107 :: y108 :: y109 :: y110 :: y111 :: y112 :: y113 :: y114 :: y115 :: y116 :: y117 :: y118 :: y119 :: y120 :: y121 :: y122 :: y123 :: y124 :: y125 :: y126 :: y127 :: y128 :: y129 :: y130 :: y131 :: y132 :: y133 :: y134 :: y135 :: y136 :: y137 :: y138 :: y139 :: y140 :: y141 :: y142 :: y143 :: y144 :: y145 :: y146 :: y147 :: y148 :: y149 :: y150 :: y151 :: y152 :: y153 :: y154 :: y155 :: y156 :: y157 :: y158 :: y159 :: y160 :: y161 :: y162 :: y163 :: y164 :: y165 :: y166 :: y167 :: y168 :: y169 :: y170 :: y171 :: y172 :: y173 :: y174 :: y175 :: y176 :: y177 :: y178 :: y179 :: y180 :: y181 :: y182 :: y183 :: y184 :: y185 :: y186 :: y187 :: y188 :: y189 :: y190 :: y191 :: y192 :: y193 :: y194 :: y195 :: y196 :: y197 :: y198 :: y199 :: y200 :: []),[]⟩ wa:=by
 have hsl9:=HVO.out.2.1
 conv=>arg 2;arg 1;whnf
 go_loopw [9] (fun i wr=>∃ z:Nat,z≤f.slots.length∧i=.int .i64 z∧(FY w x (.slice (some ⟨gc,0,none⟩) x.codes.length x.codes.length) v1 v2 (.slice (some ⟨gf,0,none⟩) x.frames.length x.frames.length) v4 v5 f (.slice (some ⟨gs,0,none⟩) f.slots.length f.slots.length) (.slice (some ⟨gt,0,none⟩) f.stack.length f.stack.length) bf fn (.slice aP fn.params.length cP) (.slice (some ⟨gI,0,none⟩) fn.ins.length cI) bn gA A bs (.slice a1 K.length c1) (.slice a2 T.length c2) K T wr)∧Below W2.heap.size W2 wr∧∀ i,i < z→SlotOk (f.slots.getD i R.va0) (K.getD i 0)) (fun i _=>f.slots.length - (intOf i).toNat)
 case atStart=>exact ⟨0,Nat.zero_le _,rfl,HYa.out,HB2a.out,fun i h=>absurd h (Nat.not_lt_zero _)⟩
 case round =>
  obtain ⟨z,hz,rfl,hy,hb2r,hall⟩:=hrel
  have HY:=hid hy
  have HB2r:=hid hb2r
  have HALL:=hid hall
  clear hy hb2r hall
  have o3:wr.cell? ⟨bf,3,none⟩=some (.slice (some ⟨gs,0,none⟩) f.slots.length f.slots.length):=cell_hp HY.out.fx.fb 3
  by_cases hlt:z < f.slots.length
  ·have hzi:(z:Int) < (f.slots.length:Int):=by omega
   have hzk:(z:Int) < (K.length:Int):=by have:=HKL.out;omega
   obtain ⟨gk,ck,ek,_,_,hgk,kcs⟩:=HY.out.r1.at (show z < K.length by have:=HKL.out;omega)
   injection ek with ea en ec
   clear en ec
   subst ea
   have kz:=kcs z (by have:=HKL.out;omega)
   obtain ⟨hgs,w0,w1,w2⟩:=va_at (HVS2.out.next HB2r.out) hlt
   have HOV:=hid (HVO.out.1.2 z hlt)
   obtain ⟨va,hva⟩:∃ v,f.slots.getD z R.va0=v:=⟨_,rfl⟩
   have HVA:=hid hva
   rw [hva] at w0 w1 w2 HOV
   obtain ⟨kd,hkd⟩:∃ v,K.getD z 0=v:=⟨_,rfl⟩
   have HKDD:=hid hkd
   rw [hkd] at kz
   clear kcs hva hkd
   go_upto_region 12 with fail
   clear o3
   have HSTEP:Hid (SlotOk va kd→∀ i,i < z+1→SlotOk (f.slots.getD i R.va0) (K.getD i 0)):=hid fun ho i hi=>by
    rcases Nat.lt_or_ge i z with h9 | h9
    ·exact HALL.out i h9
    ·obtain rfl:i=z:=by omega
     rw [HVA.out,HKDD.out];exact ho
   have HNO:Hid (¬ SlotOk va kd→¬ FrameOk x k):=hid fun ho h=>ho (by
    have h9:=(HIFF.out.1 h).2.2.1.2 z (by rw [HFX.out];exact hlt)
    rwa [HKT.out.1,HFX.out,HVA.out,HKDD.out] at h9)
   have k1:=fun p:J.Gr wr=>(cell_hp (HY.out.next p.h).sb 1:p.W.cell? ⟨bs,1,none⟩=some (.slice (some ⟨gk,0,none⟩) K.length c1))
   have k2:=fun p:J.Gr wr=>(p.h.cell (p:=⟨gk,z,none⟩) hgk).trans kz
   have k3:=fun p:J.Gr wr=>(cell_hp (HY.out.next p.h).fx.fb 3:p.W.cell? ⟨bf,3,none⟩=some (.slice (some ⟨gs,0,none⟩) f.slots.length f.slots.length))
   have k4:=fun p:J.Gr wr=>(p.h.cell (p:=⟨gs,z * 3,none⟩) hgs).trans w0
   have k5:=fun p:J.Gr wr=>(p.h.cell (p:=⟨gs,z * 3+1,none⟩) hgs).trans w1
   have k6:=fun p:J.Gr wr=>(p.h.cell (p:=⟨gs,z * 3+2,none⟩) hgs).trans w2
   have hne2:Nonempty (J.Gr wr):=⟨⟨wr,Below.refl _ _⟩⟩
   clear kz w0 w1 w2
   obtain ⟨xt,xn,xs⟩:=va
   dsimp only at k4 k5 k6
   have HCONT:Hid (SlotOk ⟨xt,xn,xs⟩ kd→∀ V,Below wr.heap.size wr V→(FY w x (.slice (some ⟨gc,0,none⟩) x.codes.length x.codes.length) v1 v2 (.slice (some ⟨gf,0,none⟩) x.frames.length x.frames.length) v4 v5 f (.slice (some ⟨gs,0,none⟩) f.slots.length f.slots.length) (.slice (some ⟨gt,0,none⟩) f.stack.length f.stack.length) bf fn (.slice aP fn.params.length cP) (.slice (some ⟨gI,0,none⟩) fn.ins.length cI) bn gA A bs (.slice (some ⟨gk,0,none⟩) K.length c1) (.slice a2 T.length c2) K T V)∧Below W2.heap.size W2 V∧∀ i,i < z+1→SlotOk (f.slots.getD i R.va0) (K.getD i 0)):=hid fun h V hV=>⟨HY.out.next hV,HB2r.out.trans (hV.mono HB2r.out.size),HSTEP.out h⟩
   have HSTOP:Hid (¬ SlotOk ⟨xt,xn,xs⟩ kd→∀ V,Below wr.heap.size wr V→Says (.returned (.bool false)) (FrameOk x k)∧Below w.heap.size w V):=hid fun h V hV=>⟨says_f (HNO.out h),(HY.out.next hV).fx.mx.lo⟩
   have HZL:Hid (z+1≤f.slots.length):=hid hlt
   clear HSTEP HNO HY HB2r HALL HVA HKDD HFX HVS2 HIFF HKT HB2a HYa HKL HVO hgk hgs hlt hexit
   by_cases hk0:kd=0
   ·have hkb:(kd != 0)=false:=by simpa using hk0
    have HZ:Hid (kd=0∨xt=kd):=hid (.inl hk0)
    clear hk0
    have hneq:=neqVBin xt xn 0 0 xs ⟨#[]⟩
    by_cases hv0:(⟨xt,xn,xs⟩:R.Va)=R.va0
    ·have heb:eqVB xt xn xs 0 0 ⟨#[]⟩=true:=eqVB_iff.2 hv0
     have HV0:=hid hv0
     simp only [heb,Bool.not_true] at hneq
     clear hv0 heb
     refine J.wp_region_gr (by kernel_rfl) (by kernel_rfl) ?_
     repeat (go_big_quiet_step (fail))
     refine wpQuiet_nil ?_
     intro _ hw'
     obtain ⟨pw,rfl⟩:=hw'
     have HY9:=hid (HCONT.out (slotOk_iff.2 ⟨HZ.out,.inl HV0.out⟩) _ pw.h)
     clear k1 k2 k3 k4 k5 k6 hne2 HCONT HSTOP
     go_wp2_with fail
     go_roundw
     case rel=>exact ⟨z+1,HZL.out,by go_num,HY9.out.1,HY9.out.2.1,HY9.out.2.2⟩
     case measure=>have:=HZL.out;simp [intOf];omega
    ·have heb:eqVB xt xn xs 0 0 ⟨#[]⟩=false:=Bool.eq_false_iff.2 fun h=>hv0 (eqVB_iff.1 h)
     have HV0:=hid hv0
     simp only [heb,Bool.not_false] at hneq
     clear hv0 heb
     by_cases hv:VOk ⟨xt,xn,xs⟩
     ·have HVV:=hid hv
      clear hv
      refine J.wp_region_gr (by kernel_rfl) (by kernel_rfl) ?_
      repeat (go_big_quiet_step (first | (go_at_call 83;refine J.Calls.gr_of (v:=.bool true) fun _=>?_;exact sv_true ⟨xt,xn,xs⟩ _ HOV.out HVV.out)))
      refine wpQuiet_nil ?_
      intro _ hw'
      obtain ⟨pw,rfl⟩:=hw'
      have HY9:=hid (HCONT.out (slotOk_iff.2 ⟨HZ.out,.inr HVV.out⟩) _ pw.h)
      clear k1 k2 k3 k4 k5 k6 hne2 HCONT HSTOP
      go_wp2_with fail
      go_roundw
      case rel=>exact ⟨z+1,HZL.out,by go_num,HY9.out.1,HY9.out.2.1,HY9.out.2.2⟩
      case measure=>have:=HZL.out;simp [intOf];omega
     ·have HVV:=hid hv
      clear hv
      refine J.wp_region_gr (by kernel_rfl) (by kernel_rfl) ?_
      repeat (go_big_quiet_step (first | (go_at_call 83;refine J.Calls.gr_of (v:=.bool false) fun _=>?_;exact sv_false ⟨xt,xn,xs⟩ _ HOV.out HVV.out)))
      refine wpQuiet_nil ?_
      intro _ hw'
      obtain ⟨pw,rfl⟩:=hw'
      have HY9:=hid (HSTOP.out (fun h=>((slotOk_iff.1 h).2.elim HV0.out HVV.out)) _ pw.h)
      clear k1 k2 k3 k4 k5 k6 hne2 HCONT HSTOP
      go_wp2_with fail
      go_ret
      exact HY9.out
   ·have hkb:(kd != 0)=true:=by simpa using hk0
    have HK0:=hid hk0
    clear hk0
    by_cases ht:xt=kd
    ·have htb:(xt != kd)=false:=by simpa using ht
     have HZ:Hid (kd=0∨xt=kd):=hid (.inr ht)
     clear ht
     have hneq:=neqVBin xt xn 0 0 xs ⟨#[]⟩
     by_cases hv0:(⟨xt,xn,xs⟩:R.Va)=R.va0
     ·have heb:eqVB xt xn xs 0 0 ⟨#[]⟩=true:=eqVB_iff.2 hv0
      have HV0:=hid hv0
      simp only [heb,Bool.not_true] at hneq
      clear hv0 heb
      refine J.wp_region_gr (by kernel_rfl) (by kernel_rfl) ?_
      repeat (go_big_quiet_step (fail))
      refine wpQuiet_nil ?_
      intro _ hw'
      obtain ⟨pw,rfl⟩:=hw'
      have HY9:=hid (HCONT.out (slotOk_iff.2 ⟨HZ.out,.inl HV0.out⟩) _ pw.h)
      clear k1 k2 k3 k4 k5 k6 hne2 HCONT HSTOP
      go_wp2_with fail
      go_roundw
      case rel=>exact ⟨z+1,HZL.out,by go_num,HY9.out.1,HY9.out.2.1,HY9.out.2.2⟩
      case measure=>have:=HZL.out;simp [intOf];omega
     ·have heb:eqVB xt xn xs 0 0 ⟨#[]⟩=false:=Bool.eq_false_iff.2 fun h=>hv0 (eqVB_iff.1 h)
      have HV0:=hid hv0
      simp only [heb,Bool.not_false] at hneq
      clear hv0 heb
      by_cases hv:VOk ⟨xt,xn,xs⟩
      ·have HVV:=hid hv
       clear hv
       refine J.wp_region_gr (by kernel_rfl) (by kernel_rfl) ?_
       repeat (go_big_quiet_step (first | (go_at_call 83;refine J.Calls.gr_of (v:=.bool true) fun _=>?_;exact sv_true ⟨xt,xn,xs⟩ _ HOV.out HVV.out)))
       refine wpQuiet_nil ?_
       intro _ hw'
       obtain ⟨pw,rfl⟩:=hw'
       have HY9:=hid (HCONT.out (slotOk_iff.2 ⟨HZ.out,.inr HVV.out⟩) _ pw.h)
       clear k1 k2 k3 k4 k5 k6 hne2 HCONT HSTOP
       go_wp2_with fail
       go_roundw
       case rel=>exact ⟨z+1,HZL.out,by go_num,HY9.out.1,HY9.out.2.1,HY9.out.2.2⟩
       case measure=>have:=HZL.out;simp [intOf];omega
      ·have HVV:=hid hv
       clear hv
       refine J.wp_region_gr (by kernel_rfl) (by kernel_rfl) ?_
       repeat (go_big_quiet_step (first | (go_at_call 83;refine J.Calls.gr_of (v:=.bool false) fun _=>?_;exact sv_false ⟨xt,xn,xs⟩ _ HOV.out HVV.out)))
       refine wpQuiet_nil ?_
       intro _ hw'
       obtain ⟨pw,rfl⟩:=hw'
       have HY9:=hid (HSTOP.out (fun h=>((slotOk_iff.1 h).2.elim HV0.out HVV.out)) _ pw.h)
       clear k1 k2 k3 k4 k5 k6 hne2 HCONT HSTOP
       go_wp2_with fail
       go_ret
       exact HY9.out
    ·have htb:(xt != kd)=true:=by simpa using ht
     have HTT:=hid ht
     clear ht
     refine J.wp_region_gr (by kernel_rfl) (by kernel_rfl) ?_
     repeat (go_big_quiet_step (fail))
     refine wpQuiet_nil ?_
     intro _ hw'
     obtain ⟨pw,rfl⟩:=hw'
     have HY9:=hid (HSTOP.out (fun h=>((slotOk_iff.1 h).1.elim HK0.out HTT.out)) _ pw.h)
     clear k1 k2 k3 k4 k5 k6 hne2 HCONT HSTOP
     go_wp2_with fail
     go_ret
     exact HY9.out
  ·obtain rfl:z=f.slots.length:=by omega
   have hzi:¬ ((f.slots.length:Int) < (f.slots.length:Int)):=by omega
   have HSO:Hid (SlotsOk (fr x k).slots (A (fr x k).pl.toNat).sl):=hid (by rw [HKT.out.1,HFX.out];exact ⟨HKL.out.symm,HALL.out⟩)
   clear hlt
   go_wp2_with fail
   exact hexit _ _ _ _ _ _ _ _ _ _ _ _ _ _ _ _ _ _ _ _ _ _ _ _ _ _ _ _ _ _ _ _ _ _ _ _ _ _ _ _ _ _ _ _ _ _ wr HY.out HB2r.out HSO.out
end Go.Proofs.YtbkmglknbflkhaaGreatDoor.M
