import Derived.OwnWalk
import Derived.Test.YtbkmglknbflkhaaGreatDoorJ06
namespace Go.Proofs.YtbkmglknbflkhaaGreatDoor.C
open Go.RowKit
set_option maxRecDepth 20000
set_option maxHeartbeats 4000000 in
theorem gives_8 (fns:List Fn) (f:Fn) (a:Int) (ha1:1≤a) (ha2:a≤12) (n:Int) (tx:ByteArray) (sl sk:List Int) (w:World) (cv pv iv av bv:Value) (h1:FnsRow w cv fns) (h2:IntRow w pv f.params) (h3:InsRow w iv f.ins) (h4:IntRow w av sl) (h5:IntRow w bv sk) (hn:sk.length≤1000) (hr:∀ x ∈ sk,1≤x∧x≤10) :
  Calls Tryz.prog 110 #[.agg #[cv],.agg #[.string f.name,pv,.int .i64 f.result,.int .i64 f.slots,iv],.agg #[.int .i64 8,.int .i64 a,.int .i64 n,.string tx],.agg #[.int .i64 1,av,bv]] w (GvEnd fns f ⟨8,a,n,tx⟩ sl sk w):=by
 obtain ⟨adA,cA,rfl⟩:=h4.sl
 obtain ⟨adB,cB,rfl⟩:=h5.sl
 have HX:=hid (boxes (i:=⟨8,a,n,tx⟩) h1 h2 h3 h4 h5)
 have HTK:Hid (takesN fns ⟨8,a,n,tx⟩=(sig a).1.length):=hid (by simp [takesN])
 have HEF:Hid (∀ tk,eff fns f ⟨8,a,n,tx⟩ sl tk=whn (fitL (sig a).1 tk=true) [(sig a).2]):=hid (by intro tk;simp [eff,whn])
 clear h1 h2 h3 h4 h5
 have HA:=hid (And.intro ha1 ha2)
 clear ha1 ha2
 go_enter Tryz.func110,Tryz.ntmps110
 go_upto_region 1 with fail
 obtain ⟨W,hW⟩:∃ W,((((w.alloc (.cells #[cv] 59)).alloc (.cells #[.string f.name,pv,.int .i64 f.result,.int .i64 f.slots,iv] 125)).alloc (.cells #[.int .i64 8,.int .i64 a,.int .i64 n,.string tx] 103)).alloc (.cells #[.int .i64 1,.slice adA sl.length cA,.slice adB sk.length cB] 121))=W:=⟨_,rfl⟩
 have HX2:Hid _:=hid (hW ▸ HX.out)
 rw [hW]
 clear hW HX
 have x0:=HX2.out.i0
 have x1:=HX2.out.i1
 have y1:=HX2.out.s1
 have y2:=HX2.out.s2
 go_upto_if 26 with fail
 go_cut [12] (fun v wx=>v=.int .i64 (tp sk)∧wx=W)
 case first =>
  by_cases hp:0 < sk.length
  ·obtain ⟨g,c,e9,_,_,_,hc⟩:=HX2.out.sk_.at hp
   injection e9 with ea _ ec
   subst ea ec
   have hpi:(0:Int) < (sk.length:Int):=by omega
   have hwr:IntKind.i64.wrap ((sk.length:Int) - 1)=((sk.length - 1:Nat):Int):=by rw [IntKind.wrap_i64];omega
   have hlt:((sk.length - 1:Nat):Int) < (sk.length:Int):=by omega
   have hct:=hc (sk.length - 1) (by omega)
   rw [tp_at hp] at hct
   clear hc
   go_wp2_with fail
   go_meet
   case rel=>exact ⟨rfl,rfl⟩
  ·have hpi:¬ (0:Int) < (sk.length:Int):=by omega
   have HT:=hid (tp_none hp)
   clear hp
   go_wp2_with fail
   go_meet
   case rel=>exact ⟨by rw [HT.out],rfl⟩
 case rest =>
  obtain ⟨rfl,rfl⟩:=hcut
  go_upto_if 34 with fail
  go_cut [13] (fun v wx=>v=.int .i64 (bw sk)∧wx=wc)
  case first =>
   by_cases hp:1 < sk.length
   ·obtain ⟨g,c,e9,_,_,_,hc⟩:=HX2.out.sk_.at (i:=0) (by omega)
    injection e9 with ea _ ec
    subst ea ec
    have hpi:(1:Int) < (sk.length:Int):=by omega
    have hwr:IntKind.i64.wrap ((sk.length:Int) - 2)=((sk.length - 2:Nat):Int):=by rw [IntKind.wrap_i64];omega
    have hlt:((sk.length - 2:Nat):Int) < (sk.length:Int):=by omega
    have hct:=hc (sk.length - 2) (by omega)
    rw [bw_at hp] at hct
    clear hc
    go_wp2_with fail
    go_meet
    case rel=>exact ⟨rfl,rfl⟩
   ·have hpi:¬ (1:Int) < (sk.length:Int):=by omega
    have HT:=hid (bw_none hp)
    clear hp
    go_wp2_with fail
    go_meet
    case rel=>exact ⟨by rw [HT.out],rfl⟩
  case rest =>
   obtain ⟨rfl,hwc⟩:=hcut
   subst hwc
   have HR:=hid hr
   clear hr
   obtain ⟨q,hq⟩:∃ q,(sig a).1.length=q:=⟨_,rfl⟩
   have HQ:=hid hq
   have HQ3:Hid (q≤3):=hid (by rw [← hq];exact sig_len a)
   clear hq
   by_cases hle:q≤sk.length
   ·have hlei:¬ (sk.length:Int) < (q:Int):=by omega
    have hws:IntKind.i64.wrap ((sk.length:Int) - (q:Int))=((sk.length - q:Nat):Int):=by rw [IntKind.wrap_i64];omega
    have HEQ:Hid (eff fns f ⟨8,a,n,tx⟩ sl (sk.drop (sk.length - takesN fns ⟨8,a,n,tx⟩))=whn (fitL (sig a).1 (sk.drop (sk.length - q))=true) [(sig a).2]):=hid (by rw [HEF.out,HTK.out,HQ.out])
    have HTQ:Hid (takesN fns ⟨8,a,n,tx⟩=q):=hid (by rw [HTK.out,HQ.out])
    obtain ⟨z,hz⟩:∃ z,builtG a (sk.drop (sk.length - q))=z:=⟨_,rfl⟩
    have HZ:=hid hz
    clear hz
    by_cases hq0:0 < q
    ·obtain ⟨g,c,e9,hlc,hcm,hg,hc⟩:=HX2.out.sk_.at (i:=0) (by omega)
     injection e9 with ea _ ec
     subst ea ec
     have HP0:=part_tail2 hle hg hlc hc
     have hcb:¬ cB=sk.length - q:=by omega
     rw [if_neg hcb] at HP0
     have HPT:=hid HP0
     clear hc HP0
     by_cases hz0:z=0
     ·subst hz0
      go_wp2_with (go_at_call 131;refine (builtWord_c a HA.out.1 HA.out.2 _).mono ?_;rintro e w' ⟨⟨s9,rfl⟩,hw⟩;have hw2:=hw.symm;clear hw;subst hw2;rw [HQ.out])
      go_region_with (go_at_call 132;refine (l12Built_any a _ (sk.drop (sk.length - q)) _ HA.out.1 HA.out.2 (HPT.out.next (Below.refl _ _).drew) (fun x hx=>HR.out x (List.mem_of_mem_drop hx)) (by simp;omega)).mono ?_;rintro e w9 ⟨rfl,hb9⟩;have HB9:=hid (HX2.out.lo.drew.trans (hb9.mono HX2.out.lo.size));clear hb9;rw [HZ.out])
      all_goals
       go_wp2
       go_ret3
       exact gv_bad (k:=q) (HB9.out.alloc HB9.out.size _) (by have:=HQ3.out;omega) (.inl rfl) (fun _=>HEQ.out.trans (built_none HZ.out))
     ·have HZ0:=hid hz0
      have hzf:(z != 0)=true:=by simpa using hz0
      go_wp2_with (go_at_call 131;refine (builtWord_c a HA.out.1 HA.out.2 _).mono ?_;rintro e w' ⟨⟨s9,rfl⟩,hw⟩;have hw2:=hw.symm;clear hw;subst hw2;rw [HQ.out])
      go_region_with (go_at_call 132;refine (l12Built_any a _ (sk.drop (sk.length - q)) _ HA.out.1 HA.out.2 (HPT.out.next (Below.refl _ _).drew) (fun x hx=>HR.out x (List.mem_of_mem_drop hx)) (by simp;omega)).mono ?_;rintro e w9 ⟨rfl,hb9⟩;have HB9:=hid (HX2.out.lo.drew.trans (hb9.mono HX2.out.lo.size));clear hb9;rw [HZ.out])
      all_goals
       go_wp2
       go_ret3
       exact gv_ok (k:=q) (HB9.out.alloc HB9.out.size _) (by have:=HQ3.out;omega) HTQ.out.symm hle (HEQ.out.trans (built_some HZ.out HZ0.out)) (row1 _ _)
    ·obtain rfl:q=0:=by omega
     have hlc:sk.length≤cB:=by obtain ⟨_,_,e9,h9,_⟩:=HX2.out.sk_;injection e9 with _ _ ec;omega
     have HDR:Hid (sk.drop (sk.length - 0)=[]):=hid (by simp)
     have hws0:IntKind.i64.wrap (sk.length:Int)=(sk.length:Int):=by rw [IntKind.wrap_i64];omega
     clear hws hlei hq0
     cases adB with
     | none =>
      by_cases hz0:z=0
      ·subst hz0
       go_wp2_with (go_at_call 131;refine (builtWord_c a HA.out.1 HA.out.2 _).mono ?_;rintro e w' ⟨⟨s9,rfl⟩,hw⟩;have hw2:=hw.symm;clear hw;subst hw2;rw [HQ.out])
       go_region_with (go_at_call 132;refine (l12Built_any a _ (sk.drop (sk.length - 0)) _ HA.out.1 HA.out.2 (part_none HDR.out _ _ (by simp)) (fun x hx=>HR.out x (List.mem_of_mem_drop hx)) (by simp)).mono ?_;rintro e w9 ⟨rfl,hb9⟩;have HB9:=hid (HX2.out.lo.drew.trans (hb9.mono HX2.out.lo.size));clear hb9;rw [HZ.out])
       all_goals
        go_wp2
        go_ret3
        exact gv_bad (k:=0) (HB9.out.alloc HB9.out.size _) (by decide) (.inl rfl) (fun _=>HEQ.out.trans (built_none HZ.out))
      ·have HZ0:=hid hz0
       have hzf:(z != 0)=true:=by simpa using hz0
       go_wp2_with (go_at_call 131;refine (builtWord_c a HA.out.1 HA.out.2 _).mono ?_;rintro e w' ⟨⟨s9,rfl⟩,hw⟩;have hw2:=hw.symm;clear hw;subst hw2;rw [HQ.out])
       go_region_with (go_at_call 132;refine (l12Built_any a _ (sk.drop (sk.length - 0)) _ HA.out.1 HA.out.2 (part_none HDR.out _ _ (by simp)) (fun x hx=>HR.out x (List.mem_of_mem_drop hx)) (by simp)).mono ?_;rintro e w9 ⟨rfl,hb9⟩;have HB9:=hid (HX2.out.lo.drew.trans (hb9.mono HX2.out.lo.size));clear hb9;rw [HZ.out])
       all_goals
        go_wp2
        go_ret3
        exact gv_ok (k:=0) (HB9.out.alloc HB9.out.size _) (by decide) HTQ.out.symm hle (HEQ.out.trans (built_some HZ.out HZ0.out)) (row1 _ _)
     | some p9 =>
      by_cases hcb:cB=sk.length
      ·subst hcb
       by_cases hz0:z=0
       ·subst hz0
        go_wp2_with (go_at_call 131;refine (builtWord_c a HA.out.1 HA.out.2 _).mono ?_;rintro e w' ⟨⟨s9,rfl⟩,hw⟩;have hw2:=hw.symm;clear hw;subst hw2;rw [HQ.out])
        go_region_with (go_at_call 132;refine (l12Built_any a _ (sk.drop (sk.length - 0)) _ HA.out.1 HA.out.2 (part_none HDR.out _ _ (by simp)) (fun x hx=>HR.out x (List.mem_of_mem_drop hx)) (by simp)).mono ?_;rintro e w9 ⟨rfl,hb9⟩;have HB9:=hid (HX2.out.lo.drew.trans (hb9.mono HX2.out.lo.size));clear hb9;rw [HZ.out])
        all_goals
         go_wp2
         go_ret3
         exact gv_bad (k:=0) (HB9.out.alloc HB9.out.size _) (by decide) (.inl rfl) (fun _=>HEQ.out.trans (built_none HZ.out))
       ·have HZ0:=hid hz0
        have hzf:(z != 0)=true:=by simpa using hz0
        go_wp2_with (go_at_call 131;refine (builtWord_c a HA.out.1 HA.out.2 _).mono ?_;rintro e w' ⟨⟨s9,rfl⟩,hw⟩;have hw2:=hw.symm;clear hw;subst hw2;rw [HQ.out])
        go_region_with (go_at_call 132;refine (l12Built_any a _ (sk.drop (sk.length - 0)) _ HA.out.1 HA.out.2 (part_none HDR.out _ _ (by simp)) (fun x hx=>HR.out x (List.mem_of_mem_drop hx)) (by simp)).mono ?_;rintro e w9 ⟨rfl,hb9⟩;have HB9:=hid (HX2.out.lo.drew.trans (hb9.mono HX2.out.lo.size));clear hb9;rw [HZ.out])
        all_goals
         go_wp2
         go_ret3
         exact gv_ok (k:=0) (HB9.out.alloc HB9.out.size _) (by decide) HTQ.out.symm hle (HEQ.out.trans (built_some HZ.out HZ0.out)) (row1 _ _)
      ·by_cases hz0:z=0
       ·subst hz0
        go_wp2_with (go_at_call 131;refine (builtWord_c a HA.out.1 HA.out.2 _).mono ?_;rintro e w' ⟨⟨s9,rfl⟩,hw⟩;have hw2:=hw.symm;clear hw;subst hw2;rw [HQ.out])
        go_region_with (go_at_call 132;refine (l12Built_any a _ (sk.drop (sk.length - 0)) _ HA.out.1 HA.out.2 (part_none HDR.out _ _ (by simp)) (fun x hx=>HR.out x (List.mem_of_mem_drop hx)) (by simp)).mono ?_;rintro e w9 ⟨rfl,hb9⟩;have HB9:=hid (HX2.out.lo.drew.trans (hb9.mono HX2.out.lo.size));clear hb9;rw [HZ.out])
        all_goals
         go_wp2
         go_ret3
         exact gv_bad (k:=0) (HB9.out.alloc HB9.out.size _) (by decide) (.inl rfl) (fun _=>HEQ.out.trans (built_none HZ.out))
       ·have HZ0:=hid hz0
        have hzf:(z != 0)=true:=by simpa using hz0
        go_wp2_with (go_at_call 131;refine (builtWord_c a HA.out.1 HA.out.2 _).mono ?_;rintro e w' ⟨⟨s9,rfl⟩,hw⟩;have hw2:=hw.symm;clear hw;subst hw2;rw [HQ.out])
        go_region_with (go_at_call 132;refine (l12Built_any a _ (sk.drop (sk.length - 0)) _ HA.out.1 HA.out.2 (part_none HDR.out _ _ (by simp)) (fun x hx=>HR.out x (List.mem_of_mem_drop hx)) (by simp)).mono ?_;rintro e w9 ⟨rfl,hb9⟩;have HB9:=hid (HX2.out.lo.drew.trans (hb9.mono HX2.out.lo.size));clear hb9;rw [HZ.out])
        all_goals
         go_wp2
         go_ret3
         exact gv_ok (k:=0) (HB9.out.alloc HB9.out.size _) (by decide) HTQ.out.symm hle (HEQ.out.trans (built_some HZ.out HZ0.out)) (row1 _ _)
   ·have hlei:(sk.length:Int) < (q:Int):=by omega
    go_wp2_with (go_at_call 131;refine (builtWord_c a HA.out.1 HA.out.2 _).mono ?_;rintro e w' ⟨⟨s9,rfl⟩,hw⟩;have hw2:=hw.symm;clear hw;subst hw2;rw [HQ.out])
    go_ret3
    exact gv_bad (k:=0) (by first | exact HX2.out.lo.alloc HX2.out.lo.size _ | exact (HX2.out.lo.alloc HX2.out.lo.size _).drew) (by decide) (.inl rfl) (fun h=>by rw [HTK.out,HQ.out] at h;omega)
end Go.Proofs.YtbkmglknbflkhaaGreatDoor.C
