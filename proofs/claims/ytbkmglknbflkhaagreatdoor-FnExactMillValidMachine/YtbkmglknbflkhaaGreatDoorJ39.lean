import Derived.Test.YtbkmglknbflkhaaGreatDoorJ06
namespace Go.Proofs.YtbkmglknbflkhaaGreatDoor.M
open Go.RowKit
open Go.Proofs.YtbkmglknbflkhaaGreatDoor.J (Says says_t says_f size_zero isEmpty_iff)
open Go.Proofs.YtbkmglknbflkhaaGreatDoor.R (hid)
set_option maxRecDepth 20000
set_option maxHeartbeats 40000000 in
theorem implOvA (x:R.Mc) {v0 v1 v2 v3 v4 v5:Value} {B:Nat} (w:World) (h:MK B w x v0 v1 v2 v3 v4 v5) (hx:R.LoMc x) (ht:x.text.size≤1048576) (p1:Hid (x.fin=0)) (p3:Hid (x.text.size≤3000)) :
  Calls Tryz.prog 34 #[mval x v0 v1 v2 v3 v4 v5] w fun e w'=>Says e (OvOk x)∧Below w.heap.size w w':=by
 obtain ⟨gc,rfl⟩:=h.k0.sl
 obtain ⟨ga,rfl⟩:=h.k1.sl
 obtain ⟨go,rfl⟩:=h.k2.sl
 obtain ⟨gf,rfl⟩:=h.k3.sl
 obtain ⟨gl,rfl⟩:=h.k4.sl
 obtain ⟨gs,rfl⟩:=h.k5.sl
 go_enter Tryz.func34,Tryz.ntmps34
 go_upto_region 1 with fail
 have HX:=hid (MX.start w x (.slice (some ⟨gc,0,none⟩) x.codes.length x.codes.length) (.slice (some ⟨ga,0,none⟩) x.args.length x.args.length) (.slice (some ⟨go,0,none⟩) x.outs.length x.outs.length) (.slice (some ⟨gf,0,none⟩) x.frames.length x.frames.length) (.slice (some ⟨gl,0,none⟩) x.files.length x.files.length) (.slice (some ⟨gs,0,none⟩) x.said.length x.said.length))
 obtain ⟨W1,hW1⟩:∃ W,w.alloc (.cells #[.slice (some ⟨gc,0,none⟩) x.codes.length x.codes.length,.slice (some ⟨ga,0,none⟩) x.args.length x.args.length,.slice (some ⟨go,0,none⟩) x.outs.length x.outs.length,.slice (some ⟨gf,0,none⟩) x.frames.length x.frames.length,.int .i64 x.steps,.int .i64 x.looks,.int .i64 x.kind,.string x.name,.string x.hold,.bool x.over,.int .i64 x.fin,.string x.text,.slice (some ⟨gl,0,none⟩) x.files.length x.files.length,.slice (some ⟨gs,0,none⟩) x.said.length x.said.length] 34)=W:=⟨_,rfl⟩
 rw [hW1] at HX ⊢
 clear hW1
 have HLO:=hid HX.out.lo
 have HOV:Hid (OvOk x ↔ OvP x.fin x.looks x.kind x.name x.hold x.text x.codes.length x.args.length x.outs.length x.frames.length x.files.length):=hid Iff.rfl
 have hb0:=hx.1.1;have hb1:x.args.length≤1048576:=hx.2.1;have hb2:x.outs.length≤1048576:=hx.2.2.1;have hb3:=hx.2.2.2.1.1;have hb4:=hx.2.2.2.2.1.1
 have c10:=HX.out.c10
 have c5:=HX.out.c5
 have c6:=HX.out.c6
 have c7:=HX.out.c7
 have c8:=HX.out.c8
 have c11:=HX.out.c11
 have c0:=HX.out.c0
 have c1:=HX.out.c1
 have c2:=HX.out.c2
 have c3:=HX.out.c3
 have c12:=HX.out.c12
 clear HX h hx
 obtain ⟨fin,e⟩:∃ f,x.fin=f:=⟨_,rfl⟩
 rw [e] at c10 HOV p1
 clear e
 obtain ⟨looks,e⟩:∃ f,x.looks=f:=⟨_,rfl⟩
 rw [e] at c5 HOV
 clear e
 obtain ⟨kind,e⟩:∃ f,x.kind=f:=⟨_,rfl⟩
 rw [e] at c6 HOV
 clear e
 obtain ⟨name,e⟩:∃ f,x.name=f:=⟨_,rfl⟩
 rw [e] at c7 HOV
 clear e
 obtain ⟨hold,e⟩:∃ f,x.hold=f:=⟨_,rfl⟩
 rw [e] at c8 HOV
 clear e
 obtain ⟨text,e⟩:∃ f,x.text=f:=⟨_,rfl⟩
 rw [e] at c11 HOV ht p3
 clear e
 obtain ⟨nc,e⟩:∃ f,x.codes.length=f:=⟨_,rfl⟩
 rw [e] at c0 HOV hb0
 clear e
 obtain ⟨na,e⟩:∃ f,x.args.length=f:=⟨_,rfl⟩
 rw [e] at c1 HOV hb1
 clear e
 obtain ⟨no,e⟩:∃ f,x.outs.length=f:=⟨_,rfl⟩
 rw [e] at c2 HOV hb2
 clear e
 obtain ⟨nf,e⟩:∃ f,x.frames.length=f:=⟨_,rfl⟩
 rw [e] at c3 HOV hb3
 clear e
 obtain ⟨nl,e⟩:∃ f,x.files.length=f:=⟨_,rfl⟩
 rw [e] at c12 HOV hb4
 clear e
 have p1:=p1.out
 have p3:=p3.out
 subst p1
 have i3:(text.size:Int)≤3000:=by omega
 by_cases e5:nc=0
 ·subst e5
  by_cases e6:na=0
  ·subst e6
   by_cases e7:no=0
   ·subst e7
    by_cases e8:nf=0
    ·subst e8
     by_cases e9:looks=0
     ·subst e9
      by_cases e10:kind=0
      ·subst e10
       by_cases e11:name.size=0
       ·obtain rfl:=size_zero e11
        by_cases e12:hold.size=0
        ·obtain rfl:=size_zero e12
         go_wp2
         go_ret
         exact ⟨says_t (HOV.out.2 ⟨by omega,by omega,by omega,by omega,rfl,rfl,rfl,rfl,rfl,rfl,rfl,rfl⟩),HLO.out⟩
        ·have b12:=not_empty e12
         go_wp2
         go_ret
         exact ⟨says_f (fun h=>by have h2:=HOV.out.1 h;unfold OvP at h2;omega),HLO.out⟩
       ·have b11:=not_empty e11
        go_wp2
        go_ret
        exact ⟨says_f (fun h=>by have h2:=HOV.out.1 h;unfold OvP at h2;omega),HLO.out⟩
      ·have b10:(kind == 0)=false:=by simpa using e10
       go_wp2
       go_ret
       exact ⟨says_f (fun h=>by have h2:=HOV.out.1 h;unfold OvP at h2;omega),HLO.out⟩
     ·have b9:(looks == 0)=false:=by simpa using e9
      go_wp2
      go_ret
      exact ⟨says_f (fun h=>by have h2:=HOV.out.1 h;unfold OvP at h2;omega),HLO.out⟩
    ·have b8:((nf:Int) == 0)=false:=by simp;omega
     go_wp2
     go_ret
     exact ⟨says_f (fun h=>by have h2:=HOV.out.1 h;unfold OvP at h2;omega),HLO.out⟩
   ·have b7:((no:Int) == 0)=false:=by simp;omega
    go_wp2
    go_ret
    exact ⟨says_f (fun h=>by have h2:=HOV.out.1 h;unfold OvP at h2;omega),HLO.out⟩
  ·have b6:((na:Int) == 0)=false:=by simp;omega
   go_wp2
   go_ret
   exact ⟨says_f (fun h=>by have h2:=HOV.out.1 h;unfold OvP at h2;omega),HLO.out⟩
 ·have b5:((nc:Int) == 0)=false:=by simp;omega
  go_wp2
  go_ret
  exact ⟨says_f (fun h=>by have h2:=HOV.out.1 h;unfold OvP at h2;omega),HLO.out⟩
end Go.Proofs.YtbkmglknbflkhaaGreatDoor.M
