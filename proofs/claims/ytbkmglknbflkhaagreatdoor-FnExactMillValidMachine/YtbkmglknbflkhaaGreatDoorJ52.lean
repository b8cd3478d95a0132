import Derived.Test.YtbkmglknbflkhaaGreatDoorJ48
namespace Go.Proofs.YtbkmglknbflkhaaGreatDoor.M
open Go.RowKit
open C (In Sh in0 fn0 FnR Least ShRow IntRow InsRow lt_hp cell_hp hp_next)
open Go.Proofs.YtbkmglknbflkhaaGreatDoor.J (Says says_t says_f)
open Go.Proofs.YtbkmglknbflkhaaGreatDoor.R (hid)
set_option maxRecDepth 20000
theorem int_small {W:World} {v:Value} {l:List Int} (h:IntRow W v l):l.length≤maxLen:=by
 obtain ⟨ad,c,e,h1,h2,h3⟩:=h
 omega
set_option maxHeartbeats 40000000 in
theorem rest_any (x:R.Mc) {gc gf:Nat} {v1 v2 v4 v5:Value} {w W2:World} {k:Nat} {f:R.Fm} {gs gt bf:Nat} {fn:C.Fn} {aP:Option Addr} {cP gI cI bn gA:Nat} {A:Nat→Sh} {bs:Nat} {a1:Option Addr} {c1:Nat} {a2:Option Addr} {c2:Nat} {K T:List Int} {wc:World} {WL:List Int} {aw:Option Addr} {n cw:Nat} {y0 y1 y2 y3 y4 y6 y7 y8 y9 y11 y12 y13 y14 y15 y16 y17 y18 y19 y20 y21 y22 y23 y24 y25 y26 y27 y28 y29 y30 y31 y32 y33 y34 y35 y36 y37 y38 y39 y40 y41 y42 y43 y44 y45 y46 y47 y48 y49 y50 y51 y52 y53 y54 y55 y56 y57 y58 y59 y60 y61 y62 y63 y64 y65 y66 y67 y68 y69 y70 y71 y72 y73 y74 y75 y76 y77 y78 y79 y80 y81 y82 y83 y84 y85 y86 y87 y88 y89 y90 y91 y92 y93 y94 y95 y96 y97 y98 y99 y100 y101 y102 y103 y104 y105 y106 y107 y108 y109 y110 y111 y112 y113 y114 y115 y116 y117 y118 y119 y120 y121 y122 y123 y124 y125 y126 y127 y128 y129 y130 y131 y132 y133 y134 y135 y136 y137 y138 y139 y140 y141 y142 y143 y144 y145 y146 y147 y148 y149 y150 y151 y152 y153 y154 y155 y156 y157 y158 y159 y160 y161 y162 y163 y164 y165 y166 y167 y168 y169 y170 y171 y172 y173 y174 y175 y176 y177 y178 y179 y180 y181 y182 y183 y184 y185 y186 y187 y188 y189 y190 y191 y192 y193 y194 y195 y196 y197 y198 y199 y200:Value} (hn:WL.length=n) (HFX:Hid (fr x k=f)) (HIFF:Hid (FrameOk x k ↔ PlaceOk x k A)) (HVO:Hid (R.OkVaS f.slots∧f.slots.length≤1048576∧R.OkVaS f.stack∧f.stack.length≤1048576)) (HVT2:Hid (R.SVaR (gf+1) W2 (.slice (some ⟨gt,0,none⟩) f.stack.length f.stack.length) f.stack)) (HA1:Hid ((A (fr x k).pl.toNat).st=1)) (HSO:Hid (SlotsOk (fr x k).slots (A (fr x k).pl.toNat).sl)) (HPR:Hid (0≤f.pl∧f.pl < fn.ins.length)) (HFN:Hid (fnOf x k=fn)) (HLI:Hid (lies x k A=WL)) (HSTD:Hid (Stands x k A)) (HWR:Hid (IntRow wc (.slice aw WL.length cw) WL)) (HY5:Hid (FY w x (.slice (some ⟨gc,0,none⟩) x.codes.length x.codes.length) v1 v2 (.slice (some ⟨gf,0,none⟩) x.frames.length x.frames.length) v4 v5 f (.slice (some ⟨gs,0,none⟩) f.slots.length f.slots.length) (.slice (some ⟨gt,0,none⟩) f.stack.length f.stack.length) bf fn (.slice aP fn.params.length cP) (.slice (some ⟨gI,0,none⟩) fn.ins.length cI) bn gA A bs (.slice a1 K.length c1) (.slice a2 T.length c2) K T wc)) (HB5:Hid (Below W2.heap.size W2 wc)) :
  Code.wp Tryz.prog restCode (bodyPost Tryz.prog Tryz.f56 fun e w'=>Says e (FrameOk x k)∧Below w.heap.size w w') ⟨List.toArray (y0 :: y1 :: y2 :: y3 :: y4 :: .pointer (some ⟨bf,0,none⟩) :: y6 :: y7 :: y8 :: y9 :: .slice aw n cw :: y11 :: y12 :: y13 :: y14 :: y15 :: y16 :: y17 :: y18 :: y19 :: y20 :: y21 :: y22 :: y23 :: y24 :: y25 :: y26 :: y27 :: y28 :: y29 :: y30 :: y31 :: y32 :: y33 :: y34 :: y35 :: y36 :: y37 :: y38 :: y39 :: y40 :: y41 :: y42 :: y43 :: y44 :: y45 :: y46 :: y47 :: y48 :: y49 :: y50 :: y51 :: y52 :: y53 :: y54 :: y55 :: y56 :: y57 :: y58 :: y59 :: y60 :: y61 :: y62 :: y63 :: y64 :: y65 :: y66 :: y67 :: y68 :: y69 :: y70 :: y71 :: y72 :: y73 :: y74 :: y75 :: y76 :: y77 :: y78 :: y79 :: y80 :: y81 :: y82 :: y83 :: y84 :: y85 :: y86 :: y87 :: y88 :: y89 :: y90 :: y91 :: y92 :: y93 :: y94 :: y95 :: y96 :: y97 :: y98 :: y99 :: y100 :: y101 :: y102 :: y103 :: y104 :: y105 :: y106 :: y107 :: y108 :: y109 :: y110 :: y111 :: y112 :: y113 :: y114 :: y115 :: y116 :: y117 :: y118 :: y119 :: y120 :: y121 :: y122 :: y123 :: y124 :: y125 :: y126 :: y127 :: y128 :: y129 :: y130 :: y131 :: y132 :: y133 :: y134 :: y135 :: y136 :: y137 :: y138 :: y139 :: y140 :: y141 :: y142 :: y143 :: y144 :: y145 :: y146 :: y147 :: y148 :: y149 :: y150 :: y151 :: y152 :: y153 :: y154 :: y155 :: y156 :: y157 :: y158 :: y159 :: y160 :: y161 :: y162 :: y163 :: y164 :: y165 :: y166 :: y167 :: y168 :: y169 :: y170 :: y171 :: y172 :: y173 :: y174 :: y175 :: y176 :: y177 :: y178 :: y179 :: y180 :: y181 :: y182 :: y183 :: y184 :: y185 :: y186 :: y187 :: y188 :: y189 :: y190 :: y191 :: y192 :: y193 :: y194 :: y195 :: y196 :: y197 :: y198 :: y199 :: y200 :: []),[]⟩ wc:=by
 subst hn
 have hst9:=HVO.out.2.2.2
 have HWM:=hid (int_small HWR.out)
 conv=>arg 2;whnf
 have o4:wc.cell? ⟨bf,4,none⟩=some (.slice (some ⟨gt,0,none⟩) f.stack.length f.stack.length):=cell_hp HY5.out.fx.fb 4
 by_cases hsn:f.stack.length=WL.length
 ·have HSN:=hid hsn
  have hsnb:((f.stack.length:Int) != ((WL.length:Nat):Int))=false:=by simp;omega
  clear hsn
  go_wp2_with fail
  clear o4 hsnb
  go_loopw [13] (fun i wr=>∃ z:Nat,z≤WL.length∧i=.int .i64 z∧(FY w x (.slice (some ⟨gc,0,none⟩) x.codes.length x.codes.length) v1 v2 (.slice (some ⟨gf,0,none⟩) x.frames.length x.frames.length) v4 v5 f (.slice (some ⟨gs,0,none⟩) f.slots.length f.slots.length) (.slice (some ⟨gt,0,none⟩) f.stack.length f.stack.length) bf fn (.slice aP fn.params.length cP) (.slice (some ⟨gI,0,none⟩) fn.ins.length cI) bn gA A bs (.slice a1 K.length c1) (.slice a2 T.length c2) K T wr)∧Below wc.heap.size wc wr∧∀ i,i < z→(f.stack.getD i R.va0).ty=(WL).getD i 0∧VOk (f.stack.getD i R.va0)) (fun i _=>WL.length - (intOf i).toNat)
  case atStart=>exact ⟨0,Nat.zero_le _,rfl,HY5.out,Below.refl _ _,fun i h=>absurd h (Nat.not_lt_zero _)⟩
  case round =>
   obtain ⟨z,hz,rfl,hy3,hb3,hall3⟩:=hrel
   have HY3:=hid hy3
   have HB3r:=hid hb3
   have HALL3:=hid hall3
   clear hy3 hb3 hall3
   by_cases hlt:z < WL.length
   ·have hzi:(z:Int) < ((WL.length:Nat):Int):=by omega
    have hzt:(z:Int) < (f.stack.length:Int):=by have:=HSN.out;omega
    have hztn:z < f.stack.length:=by have:=HSN.out;omega
    obtain ⟨gw,cw9,ew,_,_,hgw,kcs⟩:=(HWR.out.next HB3r.out).at hlt
    injection ew with ea en ec
    clear en ec
    subst ea
    have kz:=kcs z hlt
    clear kcs
    obtain ⟨hgt,w0,w1,w2⟩:=va_at (HVT2.out.next (HB5.out.trans (HB3r.out.mono HB5.out.size))) hztn
    have HOV:=hid (HVO.out.2.2.1.2 z hztn)
    obtain ⟨va,hva⟩:∃ v,f.stack.getD z R.va0=v:=⟨_,rfl⟩
    have HVA:=hid hva
    rw [hva] at w0 w1 w2 HOV
    obtain ⟨kd,hkd⟩:∃ v,(WL).getD z 0=v:=⟨_,rfl⟩
    have HKDD:=hid hkd
    rw [hkd] at kz
    clear hva hkd
    go_upto_region 30 with fail
    have HSTEP3:Hid (va.ty=kd→VOk va→∀ i,i < z+1→(f.stack.getD i R.va0).ty=(WL).getD i 0∧VOk (f.stack.getD i R.va0)):=hid fun h1 h2 i hi=>by
     rcases Nat.lt_or_ge i z with h9 | h9
     ·exact HALL3.out i h9
     ·obtain rfl:i=z:=by omega
      rw [HVA.out,HKDD.out];exact ⟨h1,h2⟩
    have HNO3:Hid (¬ (va.ty=kd∧VOk va)→¬ FrameOk x k):=hid fun ho h=>ho (by
     have h9:=(HIFF.out.1 h).2.2.2.2.2 z (by rw [HFX.out];exact hztn)
     rwa [HLI.out,HFX.out,HVA.out,HKDD.out] at h9)
    have k3:=fun p:J.Gr wr=>(cell_hp (HY3.out.next p.h).fx.fb 4:p.W.cell? ⟨bf,4,none⟩=some (.slice (some ⟨gt,0,none⟩) f.stack.length f.stack.length))
    have k2:=fun p:J.Gr wr=>(p.h.cell (p:=⟨gw,z,none⟩) hgw).trans kz
    have k4:=fun p:J.Gr wr=>(p.h.cell (p:=⟨gt,z * 3,none⟩) hgt).trans w0
    have k5:=fun p:J.Gr wr=>(p.h.cell (p:=⟨gt,z * 3+1,none⟩) hgt).trans w1
    have k6:=fun p:J.Gr wr=>(p.h.cell (p:=⟨gt,z * 3+2,none⟩) hgt).trans w2
    have hne2:Nonempty (J.Gr wr):=⟨⟨wr,Below.refl _ _⟩⟩
    clear kz w0 w1 w2
    obtain ⟨xt,xn,xs⟩:=va
    dsimp only at k4 k5 k6
    by_cases ht:xt=kd
    ·have htb:(xt != kd)=false:=by simpa using ht
     have HTT:=hid ht
     clear ht
     by_cases hv:VOk ⟨xt,xn,xs⟩
     ·have HVV:=hid hv
      clear hv
      refine J.wp_region_gr (by kernel_rfl) (by kernel_rfl) ?_
      repeat (go_big_quiet_step (first | (go_at_call 83;refine J.Calls.gr_of (v:=.bool true) fun _=>?_;exact sv_true ⟨xt,xn,xs⟩ _ HOV.out HVV.out)))
      refine wpQuiet_nil ?_
      intro _ hw'
      obtain ⟨pw,rfl⟩:=hw'
      have HY9:=hid (HY3.out.next pw.h)
      have HB9r:=hid (HB3r.out.trans (pw.h.mono HB3r.out.size))
      clear k2 k3 k4 k5 k6 hne2
      go_wp2_with fail
      go_roundw
      case rel=>exact ⟨z+1,by omega,by go_num,HY9.out,HB9r.out,HSTEP3.out HTT.out HVV.out⟩
      case measure=>simp [intOf];omega
     ·have HVV:=hid hv
      clear hv
      refine J.wp_region_gr (by kernel_rfl) (by kernel_rfl) ?_
      repeat (go_big_quiet_step (first | (go_at_call 83;refine J.Calls.gr_of (v:=.bool false) fun _=>?_;exact sv_false ⟨xt,xn,xs⟩ _ HOV.out HVV.out)))
      refine wpQuiet_nil ?_
      intro _ hw'
      obtain ⟨pw,rfl⟩:=hw'
      have HY9:=hid (HY3.out.next pw.h)
      clear k2 k3 k4 k5 k6 hne2
      go_wp2_with fail
      go_ret
      exact ⟨says_f (HNO3.out fun h=>HVV.out h.2),HY9.out.fx.mx.lo⟩
    ·have htb:(xt != kd)=true:=by simpa using ht
     have HTT:=hid ht
     clear ht
     refine J.wp_region_gr (by kernel_rfl) (by kernel_rfl) ?_
     repeat (go_big_quiet_step (fail))
     refine wpQuiet_nil ?_
     intro _ hw'
     obtain ⟨pw,rfl⟩:=hw'
     have HY9:=hid (HY3.out.next pw.h)
     clear k2 k3 k4 k5 k6 hne2
     go_wp2_with fail
     go_ret
     exact ⟨says_f (HNO3.out fun h=>HTT.out h.1),HY9.out.fx.mx.lo⟩
   ·obtain rfl:z=WL.length:=by omega
    have hzi:¬ (((WL.length:Nat):Int) < ((WL.length:Nat):Int)):=by omega
    clear hlt
    go_wp2_with fail
    go_ret
    exact ⟨says_t (HIFF.out.2 ⟨by rw [HFN.out,HFX.out];exact HPR.out,HA1.out,HSO.out,HSTD.out,by rw [HLI.out,HFX.out];exact ⟨HSN.out.trans (show WL.length=(WL).length from rfl),fun i hi=>HALL3.out i (by have:=HSN.out;omega)⟩⟩),HY3.out.fx.mx.lo⟩
 ·have hsnb:((f.stack.length:Int) != ((WL.length:Nat):Int))=true:=by simp;omega
  have HNO3:Hid (¬ FrameOk x k):=hid fun h=>hsn (by have h9:=(HIFF.out.1 h).2.2.2.2.1;rw [HLI.out,HFX.out] at h9;exact h9.trans (show (WL).length=WL.length from (rfl).symm))
  clear hsn
  go_wp2_with fail
  go_ret
  exact ⟨says_f HNO3.out,HY5.out.fx.mx.lo⟩
end Go.Proofs.YtbkmglknbflkhaaGreatDoor.M
namespace Go.Proofs.YtbkmglknbflkhaaGreatDoor.M
open Go.RowKit
open C (In Sh in0 fn0 FnR Least ShRow IntRow InsRow lt_hp cell_hp hp_next)
open Go.Proofs.YtbkmglknbflkhaaGreatDoor.J (Says says_t says_f)
open Go.Proofs.YtbkmglknbflkhaaGreatDoor.R (hid)
set_option maxRecDepth 20000
set_option maxHeartbeats 40000000 in
theorem awaitC_any (x:R.Mc) {gc gf:Nat} {v1 v2 v4 v5:Value} {w W2:World} {k:Nat} {f:R.Fm} {gs gt bf:Nat} {fn:C.Fn} {aP:Option Addr} {cP gI cI bn gA:Nat} {A:Nat→Sh} {bs:Nat} {a1:Option Addr} {c1:Nat} {a2:Option Addr} {c2:Nat} {K T:List Int} {wo:World} {B:Nat} {fns:List C.Fn} {ff p:Nat} {bw:Bool} {KK:Act→World→Prop} {y0 y3 y4 y9 y11 y12 y13 y14 y15 y16 y17 y18 y19 y20 y21 y22 y23 y24 y25 y26 y27 y28 y29 y30 y31 y32 y33 y34 y35 y36 y37 y38 y39 y40 y41 y42 y43 y44 y45 y46 y47 y48 y49 y50 y51 y52 y53 y54 y55 y56 y57 y58 y59 y60 y61 y62 y63 y64 y65 y66 y67 y68 y69 y70 y71 y72 y73 y74 y75 y76 y77 y78 y79 y80 y81 y82 y83 y84 y85 y86 y87 y88 y89 y90 y91 y92 y93 y94 y95 y96 y97 y98 y99 y100 y101 y102 y103 y104 y105 y106 y107 y108 y109 y110 y111 y112 y113 y114 y115 y116 y117 y118 y119 y121 y122 y123 y124 y125 y126 y127 y128 y129 y130 y131 y132 y133 y134 y135 y136 y137 y138 y139 y140 y141 y142 y143 y144 y145 y146 y147 y148 y149 y150 y151 y152 y153 y154 y155 y156 y157 y158 y159 y160 y161 y162 y163 y164 y165 y166 y167 y168 y169 y170 y171 y172 y173 y174 y175 y176 y177 y178 y179 y180 y181 y182 y183 y184 y185 y186 y187 y188 y189 y190 y191 y192 y193 y194 y195 y196 y197 y198 y199 y200:Value} (HBW:Hid (bw=true ↔ ¬ awaits x k=none)) (HFX:Hid (fr x k=f)) (HIFF:Hid (FrameOk x k ↔ PlaceOk x k A)) (HKT:Hid ((A (fr x k).pl.toNat).sl=K∧(A (fr x k).pl.toNat).sk=T)) (HVO:Hid (R.OkVaS f.slots∧f.slots.length≤1048576∧R.OkVaS f.stack∧f.stack.length≤1048576)) (HVT2:Hid (R.SVaR (gf+1) W2 (.slice (some ⟨gt,0,none⟩) f.stack.length f.stack.length) f.stack)) (HA1:Hid ((A (fr x k).pl.toNat).st=1)) (HSO:Hid (SlotsOk (fr x k).slots (A (fr x k).pl.toNat).sl)) (HPR:Hid (0≤f.pl∧f.pl < fn.ins.length)) (HFN:Hid (fnOf x k=fn)) (HKD:Hid (x.kind=0∨(1≤x.kind∧x.kind≤4))) (HRF:Hid (RngOk x k)) (HK:Hid (MK B w x (.slice (some ⟨gc,0,none⟩) x.codes.length x.codes.length) v1 v2 (.slice (some ⟨gf,0,none⟩) x.frames.length x.frames.length) v4 v5)) (HLC:Hid (R.LoCdS x.codes)) (HIR:Hid (InsRow W2 (.slice (some ⟨gI,0,none⟩) fn.ins.length cI) fn.ins)) (HPN:Hid (C.Plain fns 0 0 0)) (HFQ:Hid (fns.getD ff fn0=fn)) (HFIT:Hid (C.Fit fns fn)) (HL:Hid (Least fns fn A)) (HPT:Hid ((fr x k).pl.toNat=p)) (HP:Hid (f.pl=(p:Int))) (HOKS:Hid (C.OkSh fn.S (A p))) (HKP:Hid ((A p).sl=K∧(A p).sk=T)) (HFO:Hid (fnsOf x (fr x k).code=fns)) (HY:Hid (FY w x (.slice (some ⟨gc,0,none⟩) x.codes.length x.codes.length) v1 v2 (.slice (some ⟨gf,0,none⟩) x.frames.length x.frames.length) v4 v5 f (.slice (some ⟨gs,0,none⟩) f.slots.length f.slots.length) (.slice (some ⟨gt,0,none⟩) f.stack.length f.stack.length) bf fn (.slice aP fn.params.length cP) (.slice (some ⟨gI,0,none⟩) fn.ins.length cI) bn gA A bs (.slice a1 K.length c1) (.slice a2 T.length c2) K T wo)) (HB2r:Hid (Below W2.heap.size W2 wo))
  (hfl:x.frames.length≤1048576) (hk:k < x.frames.length) (hfn2:ff < fns.length) (hpl:p < fn.ins.length) (hil:fn.ins.length≤50000)
  (hKK:∀ a V,Code.wp Tryz.prog restCode (bodyPost Tryz.prog Tryz.f56 fun e w'=>Says e (FrameOk x k)∧Below w.heap.size w w') a V→KK a V) :
  Code.wp Tryz.prog awaitCode (Exit.then KK (bodyPost Tryz.prog Tryz.f56 fun e w'=>Says e (FrameOk x k)∧Below w.heap.size w w')) ⟨List.toArray (y0 :: .int .i64 k :: .pointer (some ⟨w.heap.size,0,none⟩) :: y3 :: y4 :: .pointer (some ⟨bf,0,none⟩) :: .pointer (some ⟨bn,0,none⟩) :: .slice (some ⟨gA,0,none⟩) fn.ins.length fn.ins.length :: .pointer (some ⟨bs,0,none⟩) :: y9 :: .slice a2 T.length c2 :: y11 :: y12 :: y13 :: y14 :: y15 :: y16 :: y17 :: y18 :: y19 :: y20 :: y21 :: y22 :: y23 :: y24 :: y25 :: y26 :: y27 :: y28 :: y29 :: y30 :: y31 :: y32 :: y33 :: y34 :: y35 :: y36 :: y37 :: y38 :: y39 :: y40 :: y41 :: y42 :: y43 :: y44 :: y45 :: y46 :: y47 :: y48 :: y49 :: y50 :: y51 :: y52 :: y53 :: y54 :: y55 :: y56 :: y57 :: y58 :: y59 :: y60 :: y61 :: y62 :: y63 :: y64 :: y65 :: y66 :: y67 :: y68 :: y69 :: y70 :: y71 :: y72 :: y73 :: y74 :: y75 :: y76 :: y77 :: y78 :: y79 :: y80 :: y81 :: y82 :: y83 :: y84 :: y85 :: y86 :: y87 :: y88 :: y89 :: y90 :: y91 :: y92 :: y93 :: y94 :: y95 :: y96 :: y97 :: y98 :: y99 :: y100 :: y101 :: y102 :: y103 :: y104 :: y105 :: y106 :: y107 :: y108 :: y109 :: y110 :: y111 :: y112 :: y113 :: y114 :: y115 :: y116 :: y117 :: y118 :: y119 :: .bool bw :: y121 :: y122 :: y123 :: y124 :: y125 :: y126 :: y127 :: y128 :: y129 :: y130 :: y131 :: y132 :: y133 :: y134 :: y135 :: y136 :: y137 :: y138 :: y139 :: y140 :: y141 :: y142 :: y143 :: y144 :: y145 :: y146 :: y147 :: y148 :: y149 :: y150 :: y151 :: y152 :: y153 :: y154 :: y155 :: y156 :: y157 :: y158 :: y159 :: y160 :: y161 :: y162 :: y163 :: y164 :: y165 :: y166 :: y167 :: y168 :: y169 :: y170 :: y171 :: y172 :: y173 :: y174 :: y175 :: y176 :: y177 :: y178 :: y179 :: y180 :: y181 :: y182 :: y183 :: y184 :: y185 :: y186 :: y187 :: y188 :: y189 :: y190 :: y191 :: y192 :: y193 :: y194 :: y195 :: y196 :: y197 :: y198 :: y199 :: y200 :: []),[]⟩ wo:=by
 have hpi:(p:Int) < (fn.ins.length:Int):=by omega
 conv=>arg 2;whnf
 cases bw
 ·have HAW:Hid (awaits x k=none):=hid (Decidable.byContradiction fun h=>Bool.noConfusion (HBW.out.2 h))
  have HWR9:=hid (HY.out.r2)
  have HLI9:Hid (lies x k A=T):=hid ((lies_none HAW.out).trans HKT.out.2)
  have HST9:Hid (Stands x k A):=hid (stands_none HAW.out)
  go_wp2_with fail
  exact rest_any x rfl HFX HIFF HVO HVT2 HA1 HSO HPR HFN HLI9 HST9 HWR9 HY HB2r
 ·have HAS:Hid (∃ aj,awaits x k=some aj):=hid (by
   have h:=HBW.out.1 rfl
   cases hh:awaits x k with
   | none=>exact absurd hh h
   | some aj=>exact ⟨aj,rfl⟩)
  obtain ⟨aj,haj⟩:=HAS.out
  have HAW:=hid haj
  have HLAST:Hid (k+1=x.frames.length→1≤x.kind∧x.kind≤4):=hid fun h=>HKD.out.resolve_left fun h0=>by
   have h9:=HAW.out
   unfold awaits at h9
   rw [if_pos h,if_pos h0] at h9
   cases h9
  clear haj
  go_upto_region 16 with fail
  have o2:wo.cell? ⟨bf,2,none⟩=some (.int .i64 (p:Int)):=(cell_hp HY.out.fx.fb 2).trans (by rw [← HP.out];rfl)
  cases p with
  | zero =>
   replace o2:wo.cell? ⟨bf,2,none⟩=some (.int .i64 0):=o2
   clear hpi
   have HNO3:Hid (¬ FrameOk x k):=hid fun h=>by
    obtain ⟨h1,_⟩:=(HIFF.out.1 h).2.2.2.1 _ HAW.out
    rw [HFX.out,HP.out] at h1
    exact absurd h1 (by decide)
   go_wp2_with fail
   go_ret
   exact ⟨says_f HNO3.out,HY.out.fx.mx.lo⟩
  | succ r =>
   replace o2:wo.cell? ⟨bf,2,none⟩=some (.int .i64 ((r:Int)+1)):=o2
   have hri2:(r:Int)+1 < (fn.ins.length:Int):=hpi
   clear hpi
   have h1r:r < fn.ins.length:=by omega
   have hri:(r:Int) < (fn.ins.length:Int):=by omega
   have hr1:¬ ((r:Int)+1 < 1):=by omega
   have e1:(r:Int)+1 - 1=(r:Int):=by omega
   obtain ⟨_,_,_,_,x0,_⟩:=HY.out.row.at h1r
   obtain ⟨sr,hsr⟩:∃ z:Int,(((A r).st:Nat):Int)=z:=⟨_,rfl⟩
   have HSR:=hid hsr
   rw [hsr] at x0
   clear hsr
   have HPR1:Hid (((fr x k).pl - 1).toNat=r):=hid (by rw [HFX.out,HP.out];omega)
   by_cases hs1:sr=1
   ·have hsb:(sr != 1)=false:=by simpa using hs1
    have HAR:Hid ((A ((fr x k).pl - 1).toNat).st=1):=hid (by rw [HPR1.out];have:=HSR.out;omega)
    clear hs1
    go_upto_region 18 with fail
    clear o2 x0 hsb
    have HIRr:=hid (HIR.out.next HB2r.out)
    obtain ⟨jq,hjq⟩:∃ z,fn.ins.getD r in0=z:=⟨_,rfl⟩
    have HJQ:=hid hjq
    have HIC:Hid (∀ V,Below wo.heap.size wo V→V.rangeAt gI (r * 4) [.int .i64 jq.op,.int .i64 jq.a,.int .i64 jq.n,.string jq.text]):=hid fun V hV=>by
     obtain ⟨g9,c9,e9,_,cs9⟩:=(HIRr.out.next hV).at h1r
     injection e9 with ea9 _ _
     injection ea9 with eb9
     injection eb9 with ec9
     subst ec9
     obtain ⟨y0,y1,y2,y3⟩:=cs9 r h1r
     rw [HJQ.out] at y0 y1 y2 y3
     intro q v hv
     match q with
     | 0=>exact y0.trans hv
     | 1=>exact y1.trans hv
     | 2=>exact y2.trans hv
     | 3=>exact y3.trans hv
     | q+4=>simp at hv
    have HIB:Hid (C.insB fns fn jq=true):=hid (by
     have h9:=ins_plain HPN.out hfn2 (p:=r) (by rw [HFQ.out];exact h1r)
     rwa [HFQ.out,HJQ.out] at h9)
    have HJR:=hid (C.insB_R HIB.out)
    have HWA:Hid (∀ V,Below wo.heap.size wo V→Calls Tryz.prog 84 #[mval x (.slice (some ⟨gc,0,none⟩) x.codes.length x.codes.length) v1 v2 (.slice (some ⟨gf,0,none⟩) x.frames.length x.frames.length) v4 v5,.int .i64 k,.agg #[.int .i64 jq.op,.int .i64 jq.a,.int .i64 jq.n,.string jq.text]] V fun e w'=>WaEnd x k jq e∧Below V.heap.size V w'):=hid fun V hV =>
     wants_any x V (HK.out.next (HY.out.next hV).fx.mx.lo) hfl hk jq (fun h=>insB_zero HIB.out h) HLAST.out HRF.out.1 HLC.out (fun h=>by have:=HJR.out.call h;rwa [HFO.out])
    clear hjq
    refine wp_region_held_drew (S:=fun V=>Below wo.heap.size wo V) (by kernel_rfl) (Below.refl _ _).drew (fun hHeld=>?_)
    refine wpAnyH_take (i:=0) (v:=.agg #[.slice (some ⟨gc,0,none⟩) x.codes.length x.codes.length,v1,v2,.slice (some ⟨gf,0,none⟩) x.frames.length x.frames.length,.int .i64 x.steps,.int .i64 x.looks,.int .i64 x.kind,.string x.name,.string x.hold,.bool x.over,.int .i64 x.fin,.string x.text,v4,v5]) rfl (by kernel_rfl) (by kernel_rfl) (by kernel_rfl) (fun _ _ _ h=>h) (yieldsIf_load_mid (by rfl) 34 _ rfl _ _ rfl [.slice (some ⟨gc,0,none⟩) x.codes.length x.codes.length,v1,v2,.slice (some ⟨gf,0,none⟩) x.frames.length x.frames.length,.int .i64 x.steps,.int .i64 x.looks,.int .i64 x.kind,.string x.name,.string x.hold,.bool x.over,.int .i64 x.fin,.string x.text,v4,v5] _ (fun V hV=>range_mid [] _ [] (HY.out.next hV).fx.mx.e rfl) Tryz.underlying34 rfl (by kernel_rfl)) (hHeld) ?_
    simp only [Act.put,List.getElem_toArray,List.getElem_cons_zero,List.setIfInBounds_toArray,List.set_cons_zero,List.set_cons_succ]
    refine wpAnyH_take (i:=1) (v:=.int .i64 k) rfl (by kernel_rfl) (by kernel_rfl) (by kernel_rfl) (fun _ _ _ h=>h) (Or.inl ⟨by rfl,fun V _=>by kernel_rfl⟩) (hHeld) ?_
    simp only [Act.put,List.getElem_toArray,List.getElem_cons_zero,List.getElem_cons_succ,List.setIfInBounds_toArray,List.set_cons_zero,List.set_cons_succ]
    refine wpAnyH_take (i:=2) (v:=.pointer (some ⟨bn,4,none⟩)) rfl (by kernel_rfl) (by kernel_rfl) (by kernel_rfl) (fun _ _ _ h=>h) (Or.inl ⟨by rfl,fun V _=>by kernel_rfl⟩) (hHeld) ?_
    simp only [Act.put,List.getElem_toArray,List.getElem_cons_zero,List.getElem_cons_succ,List.setIfInBounds_toArray,List.set_cons_zero,List.set_cons_succ]
    refine wpAnyH_take (i:=3) (v:=.slice (some ⟨gI,0,none⟩) fn.ins.length cI) rfl (by kernel_rfl) (by kernel_rfl) (by kernel_rfl) (fun _ _ _ h=>h) (Or.inl ⟨by rfl,fun V hV=>by have hc:=(cell_hp (HY.out.next hV).fx.nb 4:V.cell? ⟨bn,4,none⟩=some (.slice (some ⟨gI,0,none⟩) fn.ins.length cI));go_simp⟩) (hHeld) ?_
    simp only [Act.put,List.getElem_toArray,List.getElem_cons_zero,List.getElem_cons_succ,List.setIfInBounds_toArray,List.set_cons_zero,List.set_cons_succ]
    refine wpAnyH_take (i:=4) (v:=.pointer (some ⟨bf,2,none⟩)) rfl (by kernel_rfl) (by kernel_rfl) (by kernel_rfl) (fun _ _ _ h=>h) (Or.inl ⟨by rfl,fun V _=>by kernel_rfl⟩) (hHeld) ?_
    simp only [Act.put,List.getElem_toArray,List.getElem_cons_zero,List.getElem_cons_succ,List.setIfInBounds_toArray,List.set_cons_zero,List.set_cons_succ]
    refine wpAnyH_take (i:=5) (v:=.int .i64 ((r:Int)+1)) rfl (by kernel_rfl) (by kernel_rfl) (by kernel_rfl) (fun _ _ _ h=>h) (Or.inl ⟨by rfl,fun V hV=>by have hc:=((cell_hp (HY.out.next hV).fx.fb 2).trans (by rw [HP.out];rfl):V.cell? ⟨bf,2,none⟩=some (.int .i64 ((r:Int)+1)));go_simp⟩) (hHeld) ?_
    simp only [Act.put,List.getElem_toArray,List.getElem_cons_zero,List.getElem_cons_succ,List.setIfInBounds_toArray,List.set_cons_zero,List.set_cons_succ]
    refine wpAnyH_take (i:=6) (v:=.int .i64 (r:Int)) rfl (by kernel_rfl) (by kernel_rfl) (by kernel_rfl) (fun _ _ _ h=>h) (Or.inl ⟨by rfl,fun V _=>by go_simp;exact IntWalk.i64_in _ (by omega)⟩) (hHeld) ?_
    simp only [Act.put,List.getElem_toArray,List.getElem_cons_zero,List.getElem_cons_succ,List.setIfInBounds_toArray,List.set_cons_zero,List.set_cons_succ]
    refine wpAnyH_take (i:=7) (v:=.pointer (some ⟨gI,r * 4,none⟩)) rfl (by kernel_rfl) (by kernel_rfl) (by kernel_rfl) (fun _ _ _ h=>h) (Or.inl ⟨by rfl,fun V _=>by go_simp⟩) (hHeld) ?_
    simp only [Act.put,List.getElem_toArray,List.getElem_cons_zero,List.getElem_cons_succ,List.setIfInBounds_toArray,List.set_cons_zero,List.set_cons_succ]
    refine wpAnyH_take (i:=8) (v:=.agg #[.int .i64 jq.op,.int .i64 jq.a,.int .i64 jq.n,.string jq.text]) rfl (by kernel_rfl) (by kernel_rfl) (by kernel_rfl) (fun _ _ _ h=>h) (yieldsIf_load_mid (by rfl) 103 _ rfl _ _ rfl [.int .i64 jq.op,.int .i64 jq.a,.int .i64 jq.n,.string jq.text] _ (fun V hV=>HIC.out V hV) Tryz.underlying103 rfl (by kernel_rfl)) (hHeld) ?_
    simp only [Act.put,List.getElem_toArray,List.getElem_cons_zero,List.getElem_cons_succ,List.setIfInBounds_toArray,List.set_cons_zero,List.set_cons_succ]
    refine held_call (i:=9) (by kernel_rfl) rfl rfl (by kernel_rfl) (HWA.out _ hHeld) ?_
    rintro e w9 ⟨⟨t9,ok9,rfl,hok9,hgt9⟩,hb9⟩
    have HB9:=hid (hHeld.trans (hb9.mono hHeld.size))
    have HY9:=hid (HY.out.next HB9.out)
    have HB29:=hid (HB2r.out.trans (HB9.out.mono HB2r.out.size))
    have HOK9:=hid hok9
    have HGT9:=hid hgt9
    clear hok9 hgt9 hb9
    refine ⟨_,rfl,HB9.out,?_⟩
    simp only [Act.put,List.getElem_toArray,List.getElem_cons_zero,List.getElem_cons_succ,List.setIfInBounds_toArray,List.set_cons_zero,List.set_cons_succ]
    refine wpAnyH_take (i:=10) (v:=.tuple #[.int .i64 t9,.bool ok9]) rfl (by kernel_rfl) (by kernel_rfl) (by kernel_rfl) (fun _ _ _ h=>h) (Or.inl ⟨by rfl,fun V _=>by kernel_rfl⟩) (HB9.out) ?_
    simp only [Act.put,List.getElem_toArray,List.getElem_cons_zero,List.getElem_cons_succ,List.setIfInBounds_toArray,List.set_cons_zero,List.set_cons_succ]
    refine wpAnyH_take (i:=11) (v:=.int .i64 t9) rfl (by kernel_rfl) (by kernel_rfl) (by kernel_rfl) (fun _ _ _ h=>h) (Or.inl ⟨by rfl,fun V _=>by kernel_rfl⟩) (HB9.out) ?_
    simp only [Act.put,List.getElem_toArray,List.getElem_cons_zero,List.getElem_cons_succ,List.setIfInBounds_toArray,List.set_cons_zero,List.set_cons_succ]
    refine wpAnyH_take (i:=12) (v:=.bool ok9) rfl (by kernel_rfl) (by kernel_rfl) (by kernel_rfl) (fun _ _ _ h=>h) (Or.inl ⟨by rfl,fun V _=>by kernel_rfl⟩) (HB9.out) ?_
    simp only [Act.put,List.getElem_toArray,List.getElem_cons_zero,List.getElem_cons_succ,List.setIfInBounds_toArray,List.set_cons_zero,List.set_cons_succ]
    refine wpAnyH_take (i:=13) (v:=.int .i64 t9) rfl (by kernel_rfl) (by kernel_rfl) (by kernel_rfl) (fun _ _ _ h=>h) (Or.inl ⟨by rfl,fun V _=>by kernel_rfl⟩) (HB9.out) ?_
    simp only [Act.put,List.getElem_toArray,List.getElem_cons_zero,List.getElem_cons_succ,List.setIfInBounds_toArray,List.set_cons_zero,List.set_cons_succ]
    refine wpAnyH_take (i:=14) (v:=.bool ok9) rfl (by kernel_rfl) (by kernel_rfl) (by kernel_rfl) (fun _ _ _ h=>h) (Or.inl ⟨by rfl,fun V _=>by kernel_rfl⟩) (HB9.out) ?_
    simp only [Act.put,List.getElem_toArray,List.getElem_cons_zero,List.getElem_cons_succ,List.setIfInBounds_toArray,List.set_cons_zero,List.set_cons_succ]
    refine wpAnyH_done (by kernel_rfl) ?_ _
    clear hHeld HWA
    cases ok9
    ·have HNO3:Hid (¬ FrameOk x k):=hid fun h=>by
      obtain ⟨_,_,h3⟩:=(HIFF.out.1 h).2.2.2.1 _ HAW.out
      rw [HPR1.out,HFN.out,HJQ.out] at h3
      have h9:=HOK9.out.2 (by rw [HAW.out,h3])
      exact Bool.noConfusion h9
     go_wp2_with fail
     go_ret
     exact ⟨says_f HNO3.out,HY9.out.fx.mx.lo⟩
    ·have HAJ:Hid (awaits x k=some jq):=hid (HOK9.out.1 rfl)
     have HSTD:Hid (Stands x k A):=hid fun i hi=>by
      obtain rfl:jq=i:=Option.some.inj (HAJ.out.symm.trans hi)
      exact ⟨by rw [HFX.out,HP.out];omega,HAR.out,by rw [HPR1.out,HFN.out,HJQ.out]⟩
     have HGV:Hid (giveT (fnsOf x (fr x k).code) jq=if t9=0 then [] else [t9]):=hid (HGT9.out rfl)
     by_cases ht9:t9=0
     ·have htb9:(t9 != 0)=false:=by simpa using ht9
      have HNG:Hid (¬ gives (fnsOf x (fr x k).code) jq):=hid fun h=>by
       obtain ⟨t,ht⟩:=giveT_gives.1 h
       rw [HGV.out,if_pos ht9] at ht
       cases ht
      clear ht9
      have HWR9:=hid (HY9.out.r2)
      have HLI9:Hid (lies x k A=T):=hid ((lies_no HAJ.out HNG.out).trans HKT.out.2)
      have HST9:Hid (Stands x k A):=hid (HSTD.out)
      go_wp2_with fail
      exact rest_any x rfl HFX HIFF HVO HVT2 HA1 HSO HPR HFN HLI9 HST9 HWR9 HY9 HB29
     ·have htb9:(t9 != 0)=true:=by simpa using ht9
      have HG:Hid (giveT (fnsOf x (fr x k).code) jq=[t9]):=hid (by rw [HGV.out,if_neg ht9])
      have HGS:Hid (gives (fnsOf x (fr x k).code) jq):=hid (Decidable.byContradiction fun h=>by
       have h9:=giveT_gives.2 h
       rw [HG.out] at h9
       cases h9)
      clear ht9
      have HTM:Hid (∃ m,T=m ++ [t9]):=hid (by
       obtain ⟨A2,hL2,hF2⟩:=HFIT.out
       have hF:∀ p,p < fn.ins.length→¬ C.Unfit fns fn A p:=fun p hp hU=>hF2 p hp (by unfold C.Unfit at hU ⊢;rw [← least_at HL.out hL2 hp];exact hU)
       obtain ⟨m,hm⟩:=stack_at HL.out hF (p:=r) hpl (by have:=HAR.out;rwa [HPR1.out] at this) (by have:=HA1.out;rwa [HPT.out] at this) (by rw [HJQ.out];exact (awaits_op HAJ.out).1)
       rw [HJQ.out,HKP.out.2,← HFO.out,HG.out] at hm
       exact ⟨m,hm⟩)
      have HTL:Hid (1≤T.length):=hid (by obtain ⟨m,hm⟩:=HTM.out;rw [hm];simp)
      obtain ⟨gw,cw9,ew9,hcw1,hcw2,_,_⟩:=HY9.out.r2.at (show 0 < T.length by have:=HTL.out;omega)
      injection ew9 with ea9 eb9 ec9
      clear eb9
      subst ea9
      subst ec9
      obtain ⟨tm,htm⟩:∃ n,T.length=n+1:=⟨T.length - 1,by have:=HTL.out;omega⟩
      have HTN:=hid htm
      have htz0:((T.length:Int) == 0)=false:=beq_eq_false_iff_ne.2 (by have:=HTL.out;omega)
      have HT6:Hid (T.length≤600):=hid (by have h9:=(ok10_sh HOKS.out (by have:=HA1.out;rwa [HPT.out] at this)).2.2.2;rwa [HKP.out.2] at h9)
      have e2:(T.length:Int) - 1=(tm:Int):=by omega
      have htl2:(tm:Int) < (T.length:Int):=by omega
      obtain ⟨g9,c9,e9,_,_,hg9,cs9⟩:=HY9.out.r2.at (show tm < T.length by omega)
      injection e9 with ea9 _ ed9
      injection ea9 with eb9
      injection eb9 with ec9
      subst ec9
      subst ed9
      have cz:=cs9 tm (by omega)
      rw [show T.getD tm 0=t9 by obtain ⟨m,hm⟩:=HTM.out;have h8:=HTN.out;rw [hm] at h8 ⊢;simp at h8;subst h8;simp] at cz
      have htt9:(t9 != t9)=false:=by simp
      have htc:tm≤c2:=by have:=HTN.out;omega
      have htci:(tm:Int)≤(c2:Int):=by omega
      have hwt:wrap64 (tm:Int)=(tm:Int):=by have:=HT6.out;have:=HTN.out;unfold wrap64;omega
      clear cs9 htm
      have HTM1:Hid (T.length - 1=tm):=hid (Nat.sub_eq_of_eq_add HTN.out)
      have HWR9:=hid (int_take HY9.out.r2 (n:=tm) (by have:=HTN.out;omega))
      have HLI9:Hid (lies x k A=(T.take tm)):=hid ((lies_gives HAJ.out HGS.out).trans (by rw [HKT.out.2,HTM1.out]))
      have HST9:Hid (Stands x k A):=hid (HSTD.out)
      clear hfl hk hfn2 hpl hil hri2 h1r hri hr1 e1
      go_wp2_with fail
      exact rest_any x (by rw [List.length_take,Nat.min_eq_left (by have:=HTN.out;omega)]) HFX HIFF HVO HVT2 HA1 HSO HPR HFN HLI9 HST9 HWR9 HY9 HB29
   ·have hsb:(sr != 1)=true:=by simpa using hs1
    have HNO3:Hid (¬ FrameOk x k):=hid fun h=>hs1 (by
     obtain ⟨_,h2,_⟩:=(HIFF.out.1 h).2.2.2.1 _ HAW.out
     rw [HPR1.out] at h2
     have:=HSR.out;omega)
    clear hs1
    go_wp2_with fail
    go_ret
    exact ⟨says_f HNO3.out,HY.out.fx.mx.lo⟩
end Go.Proofs.YtbkmglknbflkhaaGreatDoor.M
