import Derived.OwnWalk
import Derived.Test.YtbkmglknbflkhaaGreatDoorJ06
namespace Go.Proofs.YtbkmglknbflkhaaGreatDoor.C
open Go.RowKit
set_option maxRecDepth 20000
set_option maxHeartbeats 1000000 in
theorem gives_4 (fns:List Fn) (f:Fn) (a:Int) (n:Int) (tx:ByteArray) (sl sk:List Int) (w:World) (cv pv iv av bv:Value) (h1:FnsRow w cv fns) (h2:IntRow w pv f.params) (h3:InsRow w iv f.ins) (h4:IntRow w av sl) (h5:IntRow w bv sk) (hn:sk.length≤1000) :
  Calls Tryz.prog 110 #[.agg #[cv],.agg #[.string f.name,pv,.int .i64 f.result,.int .i64 f.slots,iv],.agg #[.int .i64 4,.int .i64 a,.int .i64 n,.string tx],.agg #[.int .i64 1,av,bv]] w (GvEnd fns f ⟨4,a,n,tx⟩ sl sk w):=by
 obtain ⟨adA,cA,rfl⟩:=h4.sl
 obtain ⟨adB,cB,rfl⟩:=h5.sl
 have HX:=hid (boxes (i:=⟨4,a,n,tx⟩) h1 h2 h3 h4 h5)
 have HTK:Hid (takesN fns ⟨4,a,n,tx⟩=1):=hid (by simp [takesN])
 have HEF:Hid (∀ tk,eff fns f ⟨4,a,n,tx⟩ sl tk=some []):=hid (by intro tk;simp [eff])
 clear h1 h2 h3 h4 h5
 go_enter Tryz.func110,Tryz.ntmps110
 go_upto_region 1 with fail
 obtain ⟨W,hW⟩:∃ W,((((w.alloc (.cells #[cv] 59)).alloc (.cells #[.string f.name,pv,.int .i64 f.result,.int .i64 f.slots,iv] 125)).alloc (.cells #[.int .i64 4,.int .i64 a,.int .i64 n,.string tx] 103)).alloc (.cells #[.int .i64 1,.slice adA sl.length cA,.slice adB sk.length cB] 121))=W:=⟨_,rfl⟩
 have HX2:Hid _:=hid (hW ▸ HX.out)
 rw [hW]
 clear hW HX
 have x0:=HX2.out.i0
 have x1:=HX2.out.i1
 have y1:=HX2.out.s1
 have y2:=HX2.out.s2
 go_upto_if 26 with fail
 go_cut [12] (fun v wx=>v=.int .i64 (tp sk)∧wx=W)
 case first =>
  by_cases hp:0 < sk.length
  ·obtain ⟨g,c,e9,_,_,_,hc⟩:=HX2.out.sk_.at hp
   injection e9 with ea _ ec
   subst ea ec
   have hpi:(0:Int) < (sk.length:Int):=by omega
   have hwr:IntKind.i64.wrap ((sk.length:Int) - 1)=((sk.length - 1:Nat):Int):=by rw [IntKind.wrap_i64];omega
   have hlt:((sk.length - 1:Nat):Int) < (sk.length:Int):=by omega
   have hct:=hc (sk.length - 1) (by omega)
   rw [tp_at hp] at hct
   clear hc
   go_wp2_with fail
   go_meet
   case rel=>exact ⟨rfl,rfl⟩
  ·have hpi:¬ (0:Int) < (sk.length:Int):=by omega
   have HT:=hid (tp_none hp)
   clear hp
   go_wp2_with fail
   go_meet
   case rel=>exact ⟨by rw [HT.out],rfl⟩
 case rest =>
  obtain ⟨rfl,rfl⟩:=hcut
  go_upto_if 34 with fail
  go_cut [13] (fun v wx=>v=.int .i64 (bw sk)∧wx=wc)
  case first =>
   by_cases hp:1 < sk.length
   ·obtain ⟨g,c,e9,_,_,_,hc⟩:=HX2.out.sk_.at (i:=0) (by omega)
    injection e9 with ea _ ec
    subst ea ec
    have hpi:(1:Int) < (sk.length:Int):=by omega
    have hwr:IntKind.i64.wrap ((sk.length:Int) - 2)=((sk.length - 2:Nat):Int):=by rw [IntKind.wrap_i64];omega
    have hlt:((sk.length - 2:Nat):Int) < (sk.length:Int):=by omega
    have hct:=hc (sk.length - 2) (by omega)
    rw [bw_at hp] at hct
    clear hc
    go_wp2_with fail
    go_meet
    case rel=>exact ⟨rfl,rfl⟩
   ·have hpi:¬ (1:Int) < (sk.length:Int):=by omega
    have HT:=hid (bw_none hp)
    clear hp
    go_wp2_with fail
    go_meet
    case rel=>exact ⟨by rw [HT.out],rfl⟩
  case rest =>
   obtain ⟨rfl,hwc⟩:=hcut
   subst hwc
   by_cases hp:0 < sk.length
   ·have hpi:(0:Int) < (sk.length:Int):=by omega
    go_wp2
    go_ret3
    exact gv_ok (k:=1) (by first | exact HX2.out.lo.alloc HX2.out.lo.size _ | exact (HX2.out.lo.alloc HX2.out.lo.size _).drew) (by decide) HTK.out.symm (by omega) (HEF.out _) (by first | exact row0 _ | exact (row0 _).next (Below.refl _ _).drew)
   ·have hpi:¬ (0:Int) < (sk.length:Int):=by omega
    go_wp2
    go_ret3
    exact gv_bad (k:=1) (by first | exact HX2.out.lo.alloc HX2.out.lo.size _ | exact (HX2.out.lo.alloc HX2.out.lo.size _).drew) (by decide) (.inl rfl) (fun h=>by rw [HTK.out] at h;omega)
set_option maxHeartbeats 1000000 in
theorem gives_6 (fns:List Fn) (f:Fn) (a:Int) (ha1:3≤a) (ha2:a≤18) (n:Int) (tx:ByteArray) (sl sk:List Int) (w:World) (cv pv iv av bv:Value) (h1:FnsRow w cv fns) (h2:IntRow w pv f.params) (h3:InsRow w iv f.ins) (h4:IntRow w av sl) (h5:IntRow w bv sk) (hn:sk.length≤1000) :
  Calls Tryz.prog 110 #[.agg #[cv],.agg #[.string f.name,pv,.int .i64 f.result,.int .i64 f.slots,iv],.agg #[.int .i64 6,.int .i64 a,.int .i64 n,.string tx],.agg #[.int .i64 1,av,bv]] w (GvEnd fns f ⟨6,a,n,tx⟩ sl sk w):=by
 obtain ⟨adA,cA,rfl⟩:=h4.sl
 obtain ⟨adB,cB,rfl⟩:=h5.sl
 have HX:=hid (boxes (i:=⟨6,a,n,tx⟩) h1 h2 h3 h4 h5)
 have HTK:Hid (takesN fns ⟨6,a,n,tx⟩=2):=hid (by simp [takesN])
 have HEF:Hid (∀ tk,eff fns f ⟨6,a,n,tx⟩ sl tk=opt (binG a (tk.getD 0 0) (tk.getD 1 0))):=hid (by intro tk;simp [eff])
 clear h1 h2 h3 h4 h5
 have HA:=hid (And.intro ha1 ha2)
 clear ha1 ha2
 go_enter Tryz.func110,Tryz.ntmps110
 go_upto_region 1 with fail
 obtain ⟨W,hW⟩:∃ W,((((w.alloc (.cells #[cv] 59)).alloc (.cells #[.string f.name,pv,.int .i64 f.result,.int .i64 f.slots,iv] 125)).alloc (.cells #[.int .i64 6,.int .i64 a,.int .i64 n,.string tx] 103)).alloc (.cells #[.int .i64 1,.slice adA sl.length cA,.slice adB sk.length cB] 121))=W:=⟨_,rfl⟩
 have HX2:Hid _:=hid (hW ▸ HX.out)
 rw [hW]
 clear hW HX
 have x0:=HX2.out.i0
 have x1:=HX2.out.i1
 have y1:=HX2.out.s1
 have y2:=HX2.out.s2
 go_upto_if 26 with fail
 go_cut [12] (fun v wx=>v=.int .i64 (tp sk)∧wx=W)
 case first =>
  by_cases hp:0 < sk.length
  ·obtain ⟨g,c,e9,_,_,_,hc⟩:=HX2.out.sk_.at hp
   injection e9 with ea _ ec
   subst ea ec
   have hpi:(0:Int) < (sk.length:Int):=by omega
   have hwr:IntKind.i64.wrap ((sk.length:Int) - 1)=((sk.length - 1:Nat):Int):=by rw [IntKind.wrap_i64];omega
   have hlt:((sk.length - 1:Nat):Int) < (sk.length:Int):=by omega
   have hct:=hc (sk.length - 1) (by omega)
   rw [tp_at hp] at hct
   clear hc
   go_wp2_with fail
   go_meet
   case rel=>exact ⟨rfl,rfl⟩
  ·have hpi:¬ (0:Int) < (sk.length:Int):=by omega
   have HT:=hid (tp_none hp)
   clear hp
   go_wp2_with fail
   go_meet
   case rel=>exact ⟨by rw [HT.out],rfl⟩
 case rest =>
  obtain ⟨rfl,rfl⟩:=hcut
  go_upto_if 34 with fail
  go_cut [13] (fun v wx=>v=.int .i64 (bw sk)∧wx=wc)
  case first =>
   by_cases hp:1 < sk.length
   ·obtain ⟨g,c,e9,_,_,_,hc⟩:=HX2.out.sk_.at (i:=0) (by omega)
    injection e9 with ea _ ec
    subst ea ec
    have hpi:(1:Int) < (sk.length:Int):=by omega
    have hwr:IntKind.i64.wrap ((sk.length:Int) - 2)=((sk.length - 2:Nat):Int):=by rw [IntKind.wrap_i64];omega
    have hlt:((sk.length - 2:Nat):Int) < (sk.length:Int):=by omega
    have hct:=hc (sk.length - 2) (by omega)
    rw [bw_at hp] at hct
    clear hc
    go_wp2_with fail
    go_meet
    case rel=>exact ⟨rfl,rfl⟩
   ·have hpi:¬ (1:Int) < (sk.length:Int):=by omega
    have HT:=hid (bw_none hp)
    clear hp
    go_wp2_with fail
    go_meet
    case rel=>exact ⟨by rw [HT.out],rfl⟩
  case rest =>
   obtain ⟨rfl,hwc⟩:=hcut
   subst hwc
   obtain ⟨z,hz⟩:∃ z,binG a (bw sk) (tp sk)=z:=⟨_,rfl⟩
   have HZ:=hid hz
   clear hz
   by_cases hz0:z=0
   ·subst hz0
    go_wp2_with (go_at_call 130;refine (l12Bin_any _ _ _ _ HA.out.1 HA.out.2).mono ?_;rintro e w' ⟨rfl,hw⟩;have hw2:=hw.symm;clear hw;subst hw2;rw [HZ.out])
    go_ret3
    exact gv_bad (k:=2) (by first | exact HX2.out.lo.alloc HX2.out.lo.size _ | exact (HX2.out.lo.alloc HX2.out.lo.size _).drew) (by decide) (.inl rfl) (fun h=>by rw [HTK.out] at h;rw [HEF.out,HTK.out,(drop2 h).1,(drop2 h).2,HZ.out];rfl)
   ·have HZ0:=hid hz0
    have hzf:(z != 0)=true:=by simpa using hz0
    have HP:Hid (2≤sk.length):=hid (Decidable.byContradiction fun h=>by have:=HZ.out;rw [bw_none (sk:=sk) (by omega)] at this;simp [binG] at this;omega)
    go_wp2_with (go_at_call 130;refine (l12Bin_any _ _ _ _ HA.out.1 HA.out.2).mono ?_;rintro e w' ⟨rfl,hw⟩;have hw2:=hw.symm;clear hw;subst hw2;rw [HZ.out])
    go_ret3
    exact gv_ok (k:=2) (by first | exact HX2.out.lo.alloc HX2.out.lo.size _ | exact (HX2.out.lo.alloc HX2.out.lo.size _).drew) (by decide) HTK.out.symm HP.out (by rw [HEF.out,HTK.out,(drop2 HP.out).1,(drop2 HP.out).2,HZ.out];exact if_neg HZ0.out) (by first | exact row1 _ _ | exact (row1 _ _).next (Below.refl _ _).drew)
end Go.Proofs.YtbkmglknbflkhaaGreatDoor.C
