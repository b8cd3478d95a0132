import Derived.OwnWalk
import Derived.Test.YtbkmglknbflkhaaGreatDoorJ06
namespace Go.Proofs.YtbkmglknbflkhaaGreatDoor.C
open Go.RowKit
set_option maxRecDepth 20000
set_option maxHeartbeats 1000000 in
theorem gives_11 (fns:List Fn) (f:Fn) (a:Int) (n:Int) (tx:ByteArray) (sl sk:List Int) (w:World) (cv pv iv av bv:Value) (h1:FnsRow w cv fns) (h2:IntRow w pv f.params) (h3:InsRow w iv f.ins) (h4:IntRow w av sl) (h5:IntRow w bv sk) (hn:sk.length≤1000) :
  Calls Tryz.prog 110 #[.agg #[cv],.agg #[.string f.name,pv,.int .i64 f.result,.int .i64 f.slots,iv],.agg #[.int .i64 11,.int .i64 a,.int .i64 n,.string tx],.agg #[.int .i64 1,av,bv]] w (GvEnd fns f ⟨11,a,n,tx⟩ sl sk w):=by
 obtain ⟨adA,cA,rfl⟩:=h4.sl
 obtain ⟨adB,cB,rfl⟩:=h5.sl
 have HX:=hid (boxes (i:=⟨11,a,n,tx⟩) h1 h2 h3 h4 h5)
 have HTK:Hid (takesN fns ⟨11,a,n,tx⟩=1):=hid (by simp [takesN])
 have HEF:Hid (∀ tk,eff fns f ⟨11,a,n,tx⟩ sl tk=whn (tk.getD 0 0=1) []):=hid (by intro tk;simp [eff,whn])
 clear h1 h2 h3 h4 h5
 go_enter Tryz.func110,Tryz.ntmps110
 go_upto_region 1 with fail
 obtain ⟨W,hW⟩:∃ W,((((w.alloc (.cells #[cv] 59)).alloc (.cells #[.string f.name,pv,.int .i64 f.result,.int .i64 f.slots,iv] 125)).alloc (.cells #[.int .i64 11,.int .i64 a,.int .i64 n,.string tx] 103)).alloc (.cells #[.int .i64 1,.slice adA sl.length cA,.slice adB sk.length cB] 121))=W:=⟨_,rfl⟩
 have HX2:Hid _:=hid (hW ▸ HX.out)
 rw [hW]
 clear hW HX
 have x0:=HX2.out.i0
 have x1:=HX2.out.i1
 have y1:=HX2.out.s1
 have y2:=HX2.out.s2
 go_upto_if 26 with fail
 go_cut [12] (fun v wx=>v=.int .i64 (tp sk)∧wx=W)
 case first =>
  by_cases hp:0 < sk.length
  ·obtain ⟨g,c,e9,_,_,_,hc⟩:=HX2.out.sk_.at hp
   injection e9 with ea _ ec
   subst ea ec
   have hpi:(0:Int) < (sk.length:Int):=by omega
   have hwr:IntKind.i64.wrap ((sk.length:Int) - 1)=((sk.length - 1:Nat):Int):=by rw [IntKind.wrap_i64];omega
   have hlt:((sk.length - 1:Nat):Int) < (sk.length:Int):=by omega
   have hct:=hc (sk.length - 1) (by omega)
   rw [tp_at hp] at hct
   clear hc
   go_wp2_with fail
   go_meet
   case rel=>exact ⟨rfl,rfl⟩
  ·have hpi:¬ (0:Int) < (sk.length:Int):=by omega
   have HT:=hid (tp_none hp)
   clear hp
   go_wp2_with fail
   go_meet
   case rel=>exact ⟨by rw [HT.out],rfl⟩
 case rest =>
  obtain ⟨rfl,rfl⟩:=hcut
  go_upto_if 34 with fail
  go_cut [13] (fun v wx=>v=.int .i64 (bw sk)∧wx=wc)
  case first =>
   by_cases hp:1 < sk.length
   ·obtain ⟨g,c,e9,_,_,_,hc⟩:=HX2.out.sk_.at (i:=0) (by omega)
    injection e9 with ea _ ec
    subst ea ec
    have hpi:(1:Int) < (sk.length:Int):=by omega
    have hwr:IntKind.i64.wrap ((sk.length:Int) - 2)=((sk.length - 2:Nat):Int):=by rw [IntKind.wrap_i64];omega
    have hlt:((sk.length - 2:Nat):Int) < (sk.length:Int):=by omega
    have hct:=hc (sk.length - 2) (by omega)
    rw [bw_at hp] at hct
    clear hc
    go_wp2_with fail
    go_meet
    case rel=>exact ⟨rfl,rfl⟩
   ·have hpi:¬ (1:Int) < (sk.length:Int):=by omega
    have HT:=hid (bw_none hp)
    clear hp
    go_wp2_with fail
    go_meet
    case rel=>exact ⟨by rw [HT.out],rfl⟩
  case rest =>
   obtain ⟨rfl,hwc⟩:=hcut
   subst hwc
   by_cases ht:tp sk=1
   ·have HT:=hid ht
    have htf:(tp sk == 1)=true:=by simpa using ht
    have HP:Hid (1≤sk.length):=hid (Decidable.byContradiction fun h=>by have:=tp_none (sk:=sk) (by omega);omega)
    clear ht
    go_wp2
    go_ret3
    exact gv_ok (k:=1) (by first | exact HX2.out.lo.alloc HX2.out.lo.size _ | exact (HX2.out.lo.alloc HX2.out.lo.size _).drew) (by decide) HTK.out.symm HP.out (by rw [HEF.out,HTK.out,drop1 HP.out,HT.out];rfl) (by first | exact row0 _ | exact (row0 _).next (Below.refl _ _).drew)
   ·have HT:=hid ht
    have htf:(tp sk == 1)=false:=by simpa using ht
    clear ht
    go_wp2
    go_ret3
    exact gv_bad (k:=1) (by first | exact HX2.out.lo.alloc HX2.out.lo.size _ | exact (HX2.out.lo.alloc HX2.out.lo.size _).drew) (by decide) (.inl rfl) (fun h=>by rw [HTK.out] at h;rw [HEF.out,HTK.out,drop1 h];exact if_neg HT.out)
set_option maxHeartbeats 1000000 in
theorem gives_13 (fns:List Fn) (f:Fn) (a:Int) (n:Int) (tx:ByteArray) (sl sk:List Int) (w:World) (cv pv iv av bv:Value) (h1:FnsRow w cv fns) (h2:IntRow w pv f.params) (h3:InsRow w iv f.ins) (h4:IntRow w av sl) (h5:IntRow w bv sk) (hn:sk.length≤1000) :
  Calls Tryz.prog 110 #[.agg #[cv],.agg #[.string f.name,pv,.int .i64 f.result,.int .i64 f.slots,iv],.agg #[.int .i64 13,.int .i64 a,.int .i64 n,.string tx],.agg #[.int .i64 1,av,bv]] w (GvEnd fns f ⟨13,a,n,tx⟩ sl sk w):=by
 obtain ⟨adA,cA,rfl⟩:=h4.sl
 obtain ⟨adB,cB,rfl⟩:=h5.sl
 have HX:=hid (boxes (i:=⟨13,a,n,tx⟩) h1 h2 h3 h4 h5)
 have HTK:Hid (takesN fns ⟨13,a,n,tx⟩=1):=hid (by simp [takesN])
 have HEF:Hid (∀ tk,eff fns f ⟨13,a,n,tx⟩ sl tk=whn (tk.getD 0 0=2) []):=hid (by intro tk;simp [eff,whn])
 clear h1 h2 h3 h4 h5
 go_enter Tryz.func110,Tryz.ntmps110
 go_upto_region 1 with fail
 obtain ⟨W,hW⟩:∃ W,((((w.alloc (.cells #[cv] 59)).alloc (.cells #[.string f.name,pv,.int .i64 f.result,.int .i64 f.slots,iv] 125)).alloc (.cells #[.int .i64 13,.int .i64 a,.int .i64 n,.string tx] 103)).alloc (.cells #[.int .i64 1,.slice adA sl.length cA,.slice adB sk.length cB] 121))=W:=⟨_,rfl⟩
 have HX2:Hid _:=hid (hW ▸ HX.out)
 rw [hW]
 clear hW HX
 have x0:=HX2.out.i0
 have x1:=HX2.out.i1
 have y1:=HX2.out.s1
 have y2:=HX2.out.s2
 go_upto_if 26 with fail
 go_cut [12] (fun v wx=>v=.int .i64 (tp sk)∧wx=W)
 case first =>
  by_cases hp:0 < sk.length
  ·obtain ⟨g,c,e9,_,_,_,hc⟩:=HX2.out.sk_.at hp
   injection e9 with ea _ ec
   subst ea ec
   have hpi:(0:Int) < (sk.length:Int):=by omega
   have hwr:IntKind.i64.wrap ((sk.length:Int) - 1)=((sk.length - 1:Nat):Int):=by rw [IntKind.wrap_i64];omega
   have hlt:((sk.length - 1:Nat):Int) < (sk.length:Int):=by omega
   have hct:=hc (sk.length - 1) (by omega)
   rw [tp_at hp] at hct
   clear hc
   go_wp2_with fail
   go_meet
   case rel=>exact ⟨rfl,rfl⟩
  ·have hpi:¬ (0:Int) < (sk.length:Int):=by omega
   have HT:=hid (tp_none hp)
   clear hp
   go_wp2_with fail
   go_meet
   case rel=>exact ⟨by rw [HT.out],rfl⟩
 case rest =>
  obtain ⟨rfl,rfl⟩:=hcut
  go_upto_if 34 with fail
  go_cut [13] (fun v wx=>v=.int .i64 (bw sk)∧wx=wc)
  case first =>
   by_cases hp:1 < sk.length
   ·obtain ⟨g,c,e9,_,_,_,hc⟩:=HX2.out.sk_.at (i:=0) (by omega)
    injection e9 with ea _ ec
    subst ea ec
    have hpi:(1:Int) < (sk.length:Int):=by omega
    have hwr:IntKind.i64.wrap ((sk.length:Int) - 2)=((sk.length - 2:Nat):Int):=by rw [IntKind.wrap_i64];omega
    have hlt:((sk.length - 2:Nat):Int) < (sk.length:Int):=by omega
    have hct:=hc (sk.length - 2) (by omega)
    rw [bw_at hp] at hct
    clear hc
    go_wp2_with fail
    go_meet
    case rel=>exact ⟨rfl,rfl⟩
   ·have hpi:¬ (1:Int) < (sk.length:Int):=by omega
    have HT:=hid (bw_none hp)
    clear hp
    go_wp2_with fail
    go_meet
    case rel=>exact ⟨by rw [HT.out],rfl⟩
  case rest =>
   obtain ⟨rfl,hwc⟩:=hcut
   subst hwc
   by_cases ht:tp sk=2
   ·have HT:=hid ht
    have htf:(tp sk == 2)=true:=by simpa using ht
    have HP:Hid (1≤sk.length):=hid (Decidable.byContradiction fun h=>by have:=tp_none (sk:=sk) (by omega);omega)
    clear ht
    go_wp2
    go_ret3
    exact gv_ok (k:=1) (by first | exact HX2.out.lo.alloc HX2.out.lo.size _ | exact (HX2.out.lo.alloc HX2.out.lo.size _).drew) (by decide) HTK.out.symm HP.out (by rw [HEF.out,HTK.out,drop1 HP.out,HT.out];rfl) (by first | exact row0 _ | exact (row0 _).next (Below.refl _ _).drew)
   ·have HT:=hid ht
    have htf:(tp sk == 2)=false:=by simpa using ht
    clear ht
    go_wp2
    go_ret3
    exact gv_bad (k:=1) (by first | exact HX2.out.lo.alloc HX2.out.lo.size _ | exact (HX2.out.lo.alloc HX2.out.lo.size _).drew) (by decide) (.inl rfl) (fun h=>by rw [HTK.out] at h;rw [HEF.out,HTK.out,drop1 h];exact if_neg HT.out)
end Go.Proofs.YtbkmglknbflkhaaGreatDoor.C
