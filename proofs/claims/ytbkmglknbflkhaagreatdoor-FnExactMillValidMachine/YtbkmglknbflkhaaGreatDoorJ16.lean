import Derived.OwnWalk
import Derived.Test.YtbkmglknbflkhaaGreatDoorJ06
namespace Go.Proofs.YtbkmglknbflkhaaGreatDoor.R
open Go.RowKit
set_option maxRecDepth 20000
set_option maxHeartbeats 4000000 in
theorem eqFn_same (x:C.Fn) {u0 v0 u1 v1:Value} {B:Nat} (w:World) (hx:LoFn x) (k0:SIntR B w u0 x.params) (l0:SIntR B w v0 x.params) (k1:SInR B w u1 x.ins) (l1:SInR B w v1 x.ins) :
  Calls Tryz.prog 122 #[.agg #[.string x.name,u0,.int .i64 x.result,.int .i64 x.slots,u1],.agg #[.string x.name,v0,.int .i64 x.result,.int .i64 x.slots,v1]] w fun e w'=>e=.returned (.bool true)∧Below w.heap.size w w':=by
 have e0:(x.name.toList != x.name.toList)=false:=by simp
 have i0:(x.result != x.result)=false:=by simp
 have i1:(x.slots != x.slots)=false:=by simp
 have K0:=hid (And.intro k0 l0)
 obtain ⟨gu0,rfl⟩:=k0.sl
 obtain ⟨gv0,rfl⟩:=l0.sl
 clear k0 l0
 have K1:=hid (And.intro k1 l1)
 obtain ⟨gu1,rfl⟩:=k1.sl
 obtain ⟨gv1,rfl⟩:=l1.sl
 clear k1 l1
 have HLO:=hid hx
 clear hx
 have HB0:=hid (B2.start w (.cells #[.string x.name,.slice (some ⟨gu0,0,none⟩) x.params.length x.params.length,.int .i64 x.result,.int .i64 x.slots,.slice (some ⟨gu1,0,none⟩) x.ins.length x.ins.length] 125) (.cells #[.string x.name,.slice (some ⟨gv0,0,none⟩) x.params.length x.params.length,.int .i64 x.result,.int .i64 x.slots,.slice (some ⟨gv1,0,none⟩) x.ins.length x.ins.length] 125))
 go_enter Tryz.func122,Tryz.ntmps122
 go_wp2_with fail
 refine (eqSInt_same x.params _ HLO.out.1 (K0.out.1.next HB0.out.lo) (K0.out.2.next HB0.out.lo)).mono ?_
 rintro e w1 ⟨rfl,hb0⟩
 have HB1:=hid (HB0.out.next hb0)
 clear hb0
 have p1_2:w1.cell? ⟨w.heap.size,2,none⟩=some (.int .i64 x.result):=row_cell HB1.out.e 2
 have q1_2:w1.cell? ⟨w.heap.size+1,2,none⟩=some (.int .i64 x.result):=row_cell HB1.out.f 2
 have p1_3:w1.cell? ⟨w.heap.size,3,none⟩=some (.int .i64 x.slots):=row_cell HB1.out.e 3
 have q1_3:w1.cell? ⟨w.heap.size+1,3,none⟩=some (.int .i64 x.slots):=row_cell HB1.out.f 3
 have p1_4:w1.cell? ⟨w.heap.size,4,none⟩=some (.slice (some ⟨gu1,0,none⟩) x.ins.length x.ins.length):=row_cell HB1.out.e 4
 have q1_4:w1.cell? ⟨w.heap.size+1,4,none⟩=some (.slice (some ⟨gv1,0,none⟩) x.ins.length x.ins.length):=row_cell HB1.out.f 4
 go_wp2_with fail
 refine (eqSIn_same x.ins _ HLO.out.2 (K1.out.1.next HB1.out.lo) (K1.out.2.next HB1.out.lo)).mono ?_
 rintro e w2 ⟨rfl,hb1⟩
 have HB2:=hid (HB1.out.next hb1)
 clear hb1
 go_wp2
 go_ret
 exact ⟨rfl,HB2.out.lo⟩
set_option maxHeartbeats 4000000 in
theorem eqSFn_same (l:List C.Fn) {u v:Value} {B:Nat} (w:World) (hx:LoFnS l) (k0:SFnR B w u l) (l0:SFnR B w v l) :
  Calls Tryz.prog 99 #[u,v] w fun e w'=>e=.returned (.bool true)∧Below w.heap.size w w':=by
 have H1:=hid k0
 have H2:=hid l0
 have HX:=hid hx
 have hN:l.length≤1048576:=hx.1
 obtain ⟨gu,rfl⟩:=k0.sl
 obtain ⟨gv,rfl⟩:=l0.sl
 clear k0 l0 hx
 have hne:((l.length:Int) != (l.length:Int))=false:=by simp
 go_enter Tryz.func99,Tryz.ntmps99
 go_wp2
 go_loopw [5] (fun i wr=>∃ j:Nat,j≤l.length∧i=.int .i64 j∧Below w.heap.size w wr) (fun i _=>l.length - (intOf i).toNat)
 case atStart=>exact ⟨0,Nat.zero_le _,rfl,Below.refl _ _⟩
 case round =>
  obtain ⟨j,hj,rfl,hbw⟩:=hrel
  have HBW:=hid hbw
  clear hbw
  by_cases hlt:j < l.length
  ·obtain ⟨g,e9,_,hgu,u0,u1,a0,a1,a2,a3,a4,r0,r1⟩:=(H1.out.next HBW.out).at hlt
   injection e9 with ea en ec
   injection ea with eb
   injection eb with ec2
   subst ec2
   obtain ⟨g2,e8,_,hgv,v0,v1,b0,b1,b2,b3,b4,q0,q1⟩:=(H2.out.next HBW.out).at hlt
   injection e8 with ea2 en2 ec3
   injection ea2 with eb2
   injection eb2 with ec4
   subst ec4
   clear en ec en2 ec3
   have HLO:=hid (HX.out.2 j hlt)
   obtain ⟨x,hx⟩:∃ x,l.getD j C.fn0=x:=⟨_,rfl⟩
   rw [hx] at HLO a0 b0 a2 b2 a3 b3 r0 q0 r1 q1
   clear hx
   have HT0:=hid (And.intro (r0.mono (B':=0) (Nat.zero_le _)) (q0.mono (B':=0) (Nat.zero_le _)))
   obtain ⟨gr0,rfl⟩:=r0.sl
   obtain ⟨gq0,rfl⟩:=q0.sl
   clear r0 q0
   have HT1:=hid (And.intro (r1.mono (B':=0) (Nat.zero_le _)) (q1.mono (B':=0) (Nat.zero_le _)))
   obtain ⟨gr1,rfl⟩:=r1.sl
   obtain ⟨gq1,rfl⟩:=q1.sl
   clear r1 q1
   have A0:=fun p:Gr wr=>(p.h.cell (p:=⟨_,_,none⟩) hgu).trans a0
   have C0:=fun p:Gr wr=>(p.h.cell (p:=⟨_,_,none⟩) hgv).trans b0
   have A1:=fun p:Gr wr=>(p.h.cell (p:=⟨_,_,none⟩) hgu).trans a1
   have C1:=fun p:Gr wr=>(p.h.cell (p:=⟨_,_,none⟩) hgv).trans b1
   have A2:=fun p:Gr wr=>(p.h.cell (p:=⟨_,_,none⟩) hgu).trans a2
   have C2:=fun p:Gr wr=>(p.h.cell (p:=⟨_,_,none⟩) hgv).trans b2
   have A3:=fun p:Gr wr=>(p.h.cell (p:=⟨_,_,none⟩) hgu).trans a3
   have C3:=fun p:Gr wr=>(p.h.cell (p:=⟨_,_,none⟩) hgv).trans b3
   have A4:=fun p:Gr wr=>(p.h.cell (p:=⟨_,_,none⟩) hgu).trans a4
   have C4:=fun p:Gr wr=>(p.h.cell (p:=⟨_,_,none⟩) hgv).trans b4
   clear a0 b0 a1 b1 a2 b2 a3 b3 a4 b4
   go_wp2_with fail
   have hne2:Nonempty (Gr wr):=⟨⟨wr,Below.refl _ _⟩⟩
   refine wp_region_gr (by kernel_rfl) (by kernel_rfl) ?_
   repeat (go_big_quiet_step (first | (go_at_call 122;refine Calls.gr_of (v:=.bool true) fun hpw=>?_;exact eqFn_same x _ HLO.out (HT0.out.1.next hpw) (HT0.out.2.next hpw) (HT1.out.1.next hpw) (HT1.out.2.next hpw))))
   refine wpQuiet_nil ?_
   intro _ hw'
   obtain ⟨pw,rfl⟩:=hw'
   have HB4:=hid (HBW.out.trans (pw.h.mono HBW.out.size))
   clear A0 C0 A1 C1 A2 C2 A3 C3 A4 C4
   go_wp2
   go_roundw
   case rel=>exact ⟨j+1,by omega,by go_num,HB4.out⟩
   case measure=>simp [intOf];omega
  ·obtain rfl:j=l.length:=by omega
   go_wp2
   go_ret
   exact ⟨rfl,HBW.out⟩
set_option maxHeartbeats 2000000 in
theorem szFn_any (x:C.Fn) {v0 v1:Value} (l:Int) (w:World) (hl:0≤l) (hl2:l≤1048576) (hx:OkFn x) (k0:SIntA w v0 x.params) (k1:SInA w v1 x.ins) :
  Calls Tryz.prog 104 #[.agg #[.string x.name,v0,.int .i64 x.result,.int .i64 x.slots,v1],.int .i64 l] w (SzEnd l (wFn x) w):=by
 have HX:=hid hx
 obtain ⟨hx0,hx1,hx2,hx3,hx4⟩:=hx
 have HB0:=hid (B1.start w (.cells #[.string x.name,v0,.int .i64 x.result,.int .i64 x.slots,v1] 153))
 have K0:=hid (k0.next HB0.out.lo)
 have K1:=hid (k1.next HB0.out.lo)
 obtain ⟨ad0,cp0,rfl⟩:=k0.sl
 obtain ⟨ad1,cp1,rfl⟩:=k1.sl
 clear k0 k1
 have hs_name:=small hx0
 by_cases c0:l - (x.name.size:Int) < 0
 ·go_enter Tryz.func104,Tryz.ntmps104
  go_wp2
  go_ret
  exact ⟨⟨_,rfl,by omega,by omega,fun h=>by omega⟩,HB0.out.lo⟩
 ·go_enter Tryz.func104,Tryz.ntmps104
  go_wp2_with fail
  refine (szInt_any ad0 x.params.length cp0 _ _ (by omega) (by omega) hx1).mono ?_
  rintro e w1 ⟨⟨r0,rfl,p0,q0,h0⟩,hb0⟩
  have HP0:=hid h0
  have HN0:=hid hb0
  have HB1:=hid (HB0.out.next hb0)
  clear h0 hb0
  have b0_4:w1.cell? ⟨w.heap.size,4,none⟩=some (.slice ad1 x.ins.length cp1):=row_cell HB1.out.e 4
  by_cases c1:r0 < 0
  ·go_wp2
   go_ret
   exact ⟨⟨_,rfl,by omega,by omega,fun h=>by omega⟩,HB1.out.lo⟩
  ·go_wp2_with fail
   refine (szSIn_any x.ins _ _ (by omega) (by omega) hx4 (K1.out.next HN0.out)).mono ?_
   rintro e w2 ⟨⟨r1,rfl,p1,q1,h1⟩,hb1⟩
   have HP1:=hid h1
   have HN1:=hid (HN0.out.trans (hb1.mono HN0.out.size))
   have HB2:=hid (HB1.out.next hb1)
   clear h1 hb1
   by_cases c4:r1 < 0
   ·go_wp2
    go_ret
    exact ⟨⟨_,rfl,by omega,by omega,fun h=>by omega⟩,HB2.out.lo⟩
   ·go_wp2
    go_ret
    refine ⟨⟨_,rfl,by omega,by omega,fun h=>?_⟩,HB2.out.lo⟩
    have eHP0:=HP0.out (by omega)
    have eHP1:=HP1.out (by omega)
    simp only [wFn]
    omega
set_option maxHeartbeats 2000000 in
theorem szSFn_any (l:List C.Fn) {v:Value} (m:Int) (w:World) (hl:0≤m) (hl2:m≤1048576) (hx:OkFnS l) (k0:SFnA w v l) :
  Calls Tryz.prog 78 #[v,.int .i64 m] w (SzEnd m (wSFn l l.length) w):=by
 have HX:=hid hx.2
 have hN:=small hx.1
 have HK:=hid k0
 obtain ⟨ad,cap,rfl⟩:=k0.sl
 clear hx k0
 by_cases h1:m - (l.length:Int) < 0
 ·go_enter Tryz.func78,Tryz.ntmps78
  go_wp2
  go_ret
  exact ⟨⟨_,rfl,by omega,by omega,fun h=>by omega⟩,Below.refl _ _⟩
 ·go_enter Tryz.func78,Tryz.ntmps78
  go_wp2
  go_loopw [1,5] (fun q i wr=>∃ (j:Nat) (r:Int),j≤l.length∧i=.int .i64 j∧q=.int .i64 r∧0≤r∧r≤m∧(Hid (r+(l.length:Int)+(wSFn l j:Int)=m+(j:Int)))∧Below w.heap.size w wr) (fun _ i _=>l.length - (intOf i).toNat)
  case atStart=>exact ⟨0,_,Nat.zero_le _,rfl,rfl,by omega,by omega,(by show _=_;simp [wSFn]),Below.refl _ _⟩
  case round =>
   obtain ⟨j,r,hj,rfl,rfl,hr0,hr1,HS,hbw⟩:=hrel
   have HBW:=hid hbw
   clear hbw
   by_cases hlt:j < l.length
   ·obtain ⟨a,c,e9,hal,v0,v1,⟨c0,c1,c2,c3,c4⟩,t0,t1⟩:=(HK.out.next HBW.out).at hlt
    injection e9 with ea en ec
    clear en
    subst ea ec
    obtain ⟨x,hx⟩:∃ x,l.getD j C.fn0=x:=⟨_,rfl⟩
    have HXE:=hid hx
    have HOK:=hid (HX.out j hlt)
    rw [hx] at HOK c0 c2 c3 t0 t1
    clear hx
    have HT0:=hid t0
    obtain ⟨ae0,ce0,rfl⟩:=t0.sl
    clear t0
    have HT1:=hid t1
    obtain ⟨ae1,ce1,rfl⟩:=t1.sl
    clear t1
    go_wp2_with fail
    refine (szFn_any x _ _ (by omega) (by omega) HOK.out HT0.out HT1.out).mono ?_
    rintro e w1 ⟨⟨r2,rfl,hr3,hr4,hr5⟩,hb1⟩
    have HB1:=hid (HBW.out.trans (hb1.mono HBW.out.size))
    have HR5:=hid hr5
    clear hb1 hr5 c0 c1 c2 c3 c4
    by_cases hs:r2 < 0
    ·go_wp2
     go_ret
     exact ⟨⟨-1,rfl,by omega,by omega,fun h=>by omega⟩,HB1.out⟩
    ·have HS2:Hid (r2+(l.length:Int)+(wSFn l (j+1):Int)=m+((j+1:Nat):Int)):=by
      show _=_
      have:=HS.out
      have:=HR5.out (by omega)
      simp only [wSFn,HXE.out]
      omega
     go_wp2
     go_roundw
     case rel=>exact ⟨j+1,r2,by omega,by go_num,rfl,by omega,by omega,HS2,HB1.out⟩
     case measure=>simp [intOf];omega
   ·obtain rfl:j=l.length:=by omega
    go_wp2
    go_ret
    exact ⟨⟨r,rfl,by omega,hr1,fun _=>by have:=HS.out;omega⟩,HBW.out⟩
set_option maxHeartbeats 4000000 in
theorem toFn_any (x:C.Fn) {v0 v1:Value} (w:World) (hx:LoFn x) (k0:SIntA w v0 x.params) (k1:SInA w v1 x.ins) :
  Calls Tryz.prog 115 #[.agg #[.string x.name,v0,.int .i64 x.result,.int .i64 x.slots,v1]] w fun e w'=>∃ u0 u1,e=.returned (.agg #[.string x.name,u0,.int .i64 x.result,.int .i64 x.slots,u1])∧SIntR w.heap.size w' u0 x.params∧SInR w.heap.size w' u1 x.ins∧Below w.heap.size w w':=by
 have K0:=hid k0
 have K1:=hid k1
 obtain ⟨ad0,cp0,rfl⟩:=k0.sl
 obtain ⟨ad1,cp1,rfl⟩:=k1.sl
 clear k0 k1
 have HLO:=hid hx
 clear hx
 have HX0:=hid (B3.start w (.cells #[.string x.name,.slice ad0 x.params.length cp0,.int .i64 x.result,.int .i64 x.slots,.slice ad1 x.ins.length cp1] 153) #[.string ⟨#[]⟩,.slice none 0 0,.int .i64 0,.int .i64 0,.slice none 0 0] #[.string ⟨#[]⟩,.slice none 0 0,.int .i64 0,.int .i64 0,.slice none 0 0] 125)
 obtain ⟨W0,hW0⟩:∃ W,((w.alloc (.cells #[.string x.name,.slice ad0 x.params.length cp0,.int .i64 x.result,.int .i64 x.slots,.slice ad1 x.ins.length cp1] 153)).alloc (.cells #[.string ⟨#[]⟩,.slice none 0 0,.int .i64 0,.int .i64 0,.slice none 0 0] 125)).alloc (.cells #[.string ⟨#[]⟩,.slice none 0 0,.int .i64 0,.int .i64 0,.slice none 0 0] 125)=W:=⟨_,rfl⟩
 rw [hW0] at HX0
 have a0_0:W0.cell? ⟨w.heap.size,0,none⟩=some (.string x.name):=row_cell HX0.out.e 0
 have a0_1:W0.cell? ⟨w.heap.size,1,none⟩=some (.slice ad0 x.params.length cp0):=row_cell HX0.out.e 1
 have o0_0:W0.cell? ⟨w.heap.size+1+1,0,none⟩=some (.string ⟨#[]⟩):=row_cell HX0.out.o 0
 have z0_0:W0.frozen? ⟨w.heap.size+1+1,0,none⟩=false:=(row_room HX0.out.o (i:=0) (by simp)).2
 go_enter Tryz.func115,Tryz.ntmps115
 go_wp2_with fail
 clear hW0
 have HY0:=hid (HX0.out.set 0 (.string x.name))
 obtain ⟨V0,hV0⟩:∃ V,(W0.setCell ⟨w.heap.size+1+1,0,none⟩ (.string x.name))=V:=⟨_,rfl⟩
 rw [hV0] at HY0 ⊢
 clear hV0
 clear a0_0 a0_1 o0_0 z0_0 HX0
 refine (toSInt_any x.params V0 HLO.out.1 (K0.out.next HY0.out.lo)).mono ?_
 rintro e w1 ⟨u0,rfl,r0,hb0⟩
 have HRu0:=hid (r0.mono (B':=w.heap.size+3) HY0.out.sz)
 obtain ⟨gu0,rfl⟩:=r0.sl
 clear r0
 have HX1:=hid (HY0.out.next hb0)
 clear hb0 HY0
 have a1_1:w1.cell? ⟨w.heap.size,1,none⟩=some (.slice ad0 x.params.length cp0):=row_cell HX1.out.e 1
 have a1_2:w1.cell? ⟨w.heap.size,2,none⟩=some (.int .i64 x.result):=row_cell HX1.out.e 2
 have a1_3:w1.cell? ⟨w.heap.size,3,none⟩=some (.int .i64 x.slots):=row_cell HX1.out.e 3
 have a1_4:w1.cell? ⟨w.heap.size,4,none⟩=some (.slice ad1 x.ins.length cp1):=row_cell HX1.out.e 4
 have o1_1:w1.cell? ⟨w.heap.size+1+1,1,none⟩=some (.slice none 0 0):=row_cell HX1.out.o 1
 have z1_1:w1.frozen? ⟨w.heap.size+1+1,1,none⟩=false:=(row_room HX1.out.o (i:=1) (by simp)).2
 have o1_2:w1.cell? ⟨w.heap.size+1+1,2,none⟩=some (.int .i64 0):=row_cell HX1.out.o 2
 have z1_2:w1.frozen? ⟨w.heap.size+1+1,2,none⟩=false:=(row_room HX1.out.o (i:=2) (by simp)).2
 have o1_3:w1.cell? ⟨w.heap.size+1+1,3,none⟩=some (.int .i64 0):=row_cell HX1.out.o 3
 have z1_3:w1.frozen? ⟨w.heap.size+1+1,3,none⟩=false:=(row_room HX1.out.o (i:=3) (by simp)).2
 go_wp2_with fail
 have HY1:=hid (((HX1.out.set 1 (.slice (some ⟨gu0,0,none⟩) x.params.length x.params.length)).set 2 (.int .i64 x.result)).set 3 (.int .i64 x.slots))
 have HRu0_1:=hid (((HRu0.out.set (b:=w.heap.size+1+1) (by omega) 1 (.slice (some ⟨gu0,0,none⟩) x.params.length x.params.length)).set (b:=w.heap.size+1+1) (by omega) 2 (.int .i64 x.result)).set (b:=w.heap.size+1+1) (by omega) 3 (.int .i64 x.slots))
 obtain ⟨V1,hV1⟩:∃ V,(((w1.setCell ⟨w.heap.size+1+1,1,none⟩ (.slice (some ⟨gu0,0,none⟩) x.params.length x.params.length)).setCell ⟨w.heap.size+1+1,2,none⟩ (.int .i64 x.result)).setCell ⟨w.heap.size+1+1,3,none⟩ (.int .i64 x.slots))=V:=⟨_,rfl⟩
 rw [hV1] at HY1 HRu0_1 ⊢
 clear hV1
 clear a1_1 a1_2 a1_3 a1_4 o1_1 z1_1 o1_2 z1_2 o1_3 z1_3 HX1 HRu0
 refine (toSIn_any x.ins V1 HLO.out.2 (K1.out.next HY1.out.lo)).mono ?_
 rintro e w2 ⟨u1,rfl,r1,hb1⟩
 have HRu1:=hid (r1.mono (B':=w.heap.size+3) HY1.out.sz)
 obtain ⟨gu1,rfl⟩:=r1.sl
 clear r1
 have HX2:=hid (HY1.out.next hb1)
 have HRu0:=hid (HRu0_1.out.next hb1)
 clear HRu0_1
 clear hb1 HY1
 have o2_0:w2.cell? ⟨w.heap.size+1+1,0,none⟩=some (.string x.name):=row_cell HX2.out.o 0
 have y2_0:w2.cell? ⟨w.heap.size+1,0,none⟩=some (.string ⟨#[]⟩):=row_cell HX2.out.r 0
 have f2_0:w2.frozen? ⟨w.heap.size+1,0,none⟩=false:=(row_room HX2.out.r (i:=0) (by simp)).2
 have o2_1:w2.cell? ⟨w.heap.size+1+1,1,none⟩=some (.slice (some ⟨gu0,0,none⟩) x.params.length x.params.length):=row_cell HX2.out.o 1
 have y2_1:w2.cell? ⟨w.heap.size+1,1,none⟩=some (.slice none 0 0):=row_cell HX2.out.r 1
 have f2_1:w2.frozen? ⟨w.heap.size+1,1,none⟩=false:=(row_room HX2.out.r (i:=1) (by simp)).2
 have o2_2:w2.cell? ⟨w.heap.size+1+1,2,none⟩=some (.int .i64 x.result):=row_cell HX2.out.o 2
 have y2_2:w2.cell? ⟨w.heap.size+1,2,none⟩=some (.int .i64 0):=row_cell HX2.out.r 2
 have f2_2:w2.frozen? ⟨w.heap.size+1,2,none⟩=false:=(row_room HX2.out.r (i:=2) (by simp)).2
 have o2_3:w2.cell? ⟨w.heap.size+1+1,3,none⟩=some (.int .i64 x.slots):=row_cell HX2.out.o 3
 have y2_3:w2.cell? ⟨w.heap.size+1,3,none⟩=some (.int .i64 0):=row_cell HX2.out.r 3
 have f2_3:w2.frozen? ⟨w.heap.size+1,3,none⟩=false:=(row_room HX2.out.r (i:=3) (by simp)).2
 have o2_4:w2.cell? ⟨w.heap.size+1+1,4,none⟩=some (.slice none 0 0):=row_cell HX2.out.o 4
 have y2_4:w2.cell? ⟨w.heap.size+1,4,none⟩=some (.slice none 0 0):=row_cell HX2.out.r 4
 have f2_4:w2.frozen? ⟨w.heap.size+1,4,none⟩=false:=(row_room HX2.out.r (i:=4) (by simp)).2
 have z2_4:w2.frozen? ⟨w.heap.size+1+1,4,none⟩=false:=(row_room HX2.out.o (i:=4) (by simp)).2
 go_wp2
 refine bodyPost_ret (v:=.agg #[.string x.name,.slice (some ⟨gu0,0,none⟩) x.params.length x.params.length,.int .i64 x.result,.int .i64 x.slots,.slice (some ⟨gu1,0,none⟩) x.ins.length x.ins.length]) (by simp [results,Tryz.results115,go_sem,y2_0,y2_1,y2_2,y2_3,y2_4]) rfl ⟨_,_,rfl,?_,?_,?_⟩
 ·exact ((((((HRu0.out.set (by omega) _ _).set (by omega) _ _).set (by omega) _ _).set (by omega) _ _).set (by omega) _ _).set (by omega) _ _).mono (by omega)
 ·exact ((((((HRu1.out.set (by omega) _ _).set (by omega) _ _).set (by omega) _ _).set (by omega) _ _).set (by omega) _ _).set (by omega) _ _).mono (by omega)
 ·exact (below_set (below_set (below_set (below_set (below_set (below_set HX2.out.lo _ _ (by omega) _) _ _ (by omega) _) _ _ (by omega) _) _ _ (by omega) _) _ _ (by omega) _) _ _ (by omega) _)
theorem info_Fn:(Tryz.prog.info? 125).map (fun i=>(i.zero,i.size,i.bytes))=some (some (.agg #[.string ⟨#[]⟩,.slice none 0 0,.int .i64 0,.int .i64 0,.slice none 0 0]),5,80):=by kernel_rfl
set_option maxHeartbeats 4000000 in
theorem toSFn_any (l:List C.Fn) {v:Value} (w:World) (hx:LoFnS l) (k0:SFnA w v l) :
  Calls Tryz.prog 85 #[v] w fun e w'=>∃ u,e=.returned u∧SFnR w.heap.size w' u l∧Below w.heap.size w w':=by
 have HK:=hid k0
 have HX:=hid hx
 have hN:l.length≤1048576:=hx.1
 obtain ⟨ad,cap,rfl⟩:=k0.sl
 clear hx k0
 obtain ⟨i0,hi,hz0,hz1,hz2⟩:=info_parts info_Fn
 have HHI:=hid (And.intro hi (And.intro hz0 (And.intro hz1 hz2)))
 clear hi hz0 hz1
 go_enter Tryz.func85,Tryz.ntmps85
 go_wp2_with (at_make;refine wpList_make_full _ rfl _ _ 57 rfl w.heap.size 125 i0 (.agg #[.string ⟨#[]⟩,.slice none 0 0,.int .i64 0,.int .i64 0,.slice none 0 0]) 5 Tryz.underlying57 HHI.out.1 HHI.out.2.1 HHI.out.2.2.1 _ _ _ _ l.length rfl rfl rfl rfl (by rw [hz2];omega) (by unfold maxLen;omega) (Nat.le_refl _) ?_;intro w1 o1 g1)
 have HF0:Hid (SFnF w.heap.size w1 l 0):=by
  obtain ⟨h1,⟨h2,_⟩ | ⟨g,c,cur,e,_,h4,_,_,h7,_⟩⟩:=o1
  ·cases h2
  ·cases e
   exact ⟨cur,h4,h7,fun i h=>absurd h (Nat.not_lt_zero _)⟩
 have HB0:=hid ((Below.refl w.heap.size w).grown g1 (Nat.le_refl _) (fun q e=>by cases e))
 clear o1 g1
 go_loopw [4] (fun i wr=>∃ j:Nat,j≤l.length∧i=.int .i64 j∧SFnF w.heap.size wr l j∧Below w.heap.size w wr) (fun i _=>l.length - (intOf i).toNat)
 case atStart=>exact ⟨0,Nat.zero_le _,rfl,HF0.out,HB0.out⟩
 case round =>
  obtain ⟨j,hj,rfl,hfi,hbw⟩:=hrel
  have HFI:=hid hfi
  have HBW:=hid hbw
  have hgl:=hfi.lt
  clear hfi hbw
  by_cases hlt:j < l.length
  ·obtain ⟨a,c,e9,hal,v0,v1,⟨c0,c1,c2,c3,c4⟩,t0,t1⟩:=(HK.out.next HBW.out).at hlt
   injection e9 with ea en ec
   clear en
   subst ea ec
   have HLE:=hid (HX.out.2 j hlt)
   obtain ⟨x,hx⟩:∃ x,l.getD j C.fn0=x:=⟨_,rfl⟩
   have HXE:=hid hx
   rw [hx] at HLE c0 c2 c3 t0 t1
   clear hx
   have HT0:=hid t0
   obtain ⟨ae0,ce0,rfl⟩:=t0.sl
   clear t0
   have HT1:=hid t1
   obtain ⟨ae1,ce1,rfl⟩:=t1.sl
   clear t1
   go_wp2_with fail
   refine (toFn_any x _ HLE.out HT0.out HT1.out).mono ?_
   rintro e w2 ⟨u0,u1,rfl,s0,s1,hb2⟩
   have HF2:=hid (HFI.out.keep fun i hi hl=>hb2.block i hl)
   have HFX:=hid (HF2.out.step hlt (by rw [HXE.out];exact s0.mono (by omega)) (by rw [HXE.out];exact s1.mono (by omega)))
   rw [HXE.out] at HFX
   obtain ⟨gq0,rfl⟩:=s0.sl
   clear s0
   obtain ⟨gq1,rfl⟩:=s1.sl
   clear s1
   obtain ⟨⟨w_0,x0⟩,y0⟩:=HF2.out.room (i:=j * 5) (by omega)
   obtain ⟨⟨w_1,x1⟩,y1⟩:=HF2.out.room (i:=j * 5+1) (by omega)
   obtain ⟨⟨w_2,x2⟩,y2⟩:=HF2.out.room (i:=j * 5+2) (by omega)
   obtain ⟨⟨w_3,x3⟩,y3⟩:=HF2.out.room (i:=j * 5+3) (by omega)
   obtain ⟨⟨w_4,x4⟩,y4⟩:=HF2.out.room (i:=j * 5+4) (by omega)
   have HBX:=hid (HBW.out.trans (hb2.mono HBW.out.size))
   clear hb2 c0 c1 c2 c3 c4
   go_wp2
   go_roundw
   case rel=>exact ⟨j+1,by omega,by go_num,HFX.out,(below_set (below_set (below_set (below_set (below_set HBX.out _ _ (Nat.le_refl _) _) _ _ (Nat.le_refl _) _) _ _ (Nat.le_refl _) _) _ _ (Nat.le_refl _) _) _ _ (Nat.le_refl _) _)⟩
   case measure=>simp [intOf];omega
  ·obtain rfl:j=l.length:=by omega
   go_wp2
   go_ret
   exact ⟨_,rfl,⟨w.heap.size,rfl,Nat.le_refl _,HFI.out⟩,HBW.out⟩
end Go.Proofs.YtbkmglknbflkhaaGreatDoor.R
namespace Go.Proofs.YtbkmglknbflkhaaGreatDoor.C
open Go.RowKit
set_option maxRecDepth 20000
set_option maxHeartbeats 1000000 in
theorem gives_10 (fns:List Fn) (f:Fn) (a:Int) (n:Int) (tx:ByteArray) (sl sk:List Int) (w:World) (cv pv iv av bv:Value) (h1:FnsRow w cv fns) (h2:IntRow w pv f.params) (h3:InsRow w iv f.ins) (h4:IntRow w av sl) (h5:IntRow w bv sk) (hn:sk.length≤1000) :
  Calls Tryz.prog 110 #[.agg #[cv],.agg #[.string f.name,pv,.int .i64 f.result,.int .i64 f.slots,iv],.agg #[.int .i64 10,.int .i64 a,.int .i64 n,.string tx],.agg #[.int .i64 1,av,bv]] w (GvEnd fns f ⟨10,a,n,tx⟩ sl sk w):=by
 obtain ⟨adA,cA,rfl⟩:=h4.sl
 obtain ⟨adB,cB,rfl⟩:=h5.sl
 have HX:=hid (boxes (i:=⟨10,a,n,tx⟩) h1 h2 h3 h4 h5)
 have HTK:Hid (takesN fns ⟨10,a,n,tx⟩=0):=hid (by simp [takesN])
 have HEF:Hid (∀ tk,eff fns f ⟨10,a,n,tx⟩ sl tk=some []):=hid (by intro tk;simp [eff])
 clear h1 h2 h3 h4 h5
 go_enter Tryz.func110,Tryz.ntmps110
 go_upto_region 1 with fail
 obtain ⟨W,hW⟩:∃ W,((((w.alloc (.cells #[cv] 59)).alloc (.cells #[.string f.name,pv,.int .i64 f.result,.int .i64 f.slots,iv] 125)).alloc (.cells #[.int .i64 10,.int .i64 a,.int .i64 n,.string tx] 103)).alloc (.cells #[.int .i64 1,.slice adA sl.length cA,.slice adB sk.length cB] 121))=W:=⟨_,rfl⟩
 have HX2:Hid _:=hid (hW ▸ HX.out)
 rw [hW]
 clear hW HX
 have x0:=HX2.out.i0
 have x1:=HX2.out.i1
 have y1:=HX2.out.s1
 have y2:=HX2.out.s2
 go_upto_if 26 with fail
 go_cut [12] (fun v wx=>v=.int .i64 (tp sk)∧wx=W)
 case first =>
  by_cases hp:0 < sk.length
  ·obtain ⟨g,c,e9,_,_,_,hc⟩:=HX2.out.sk_.at hp
   injection e9 with ea _ ec
   subst ea ec
   have hpi:(0:Int) < (sk.length:Int):=by omega
   have hwr:IntKind.i64.wrap ((sk.length:Int) - 1)=((sk.length - 1:Nat):Int):=by rw [IntKind.wrap_i64];omega
   have hlt:((sk.length - 1:Nat):Int) < (sk.length:Int):=by omega
   have hct:=hc (sk.length - 1) (by omega)
   rw [tp_at hp] at hct
   clear hc
   go_wp2_with fail
   go_meet
   case rel=>exact ⟨rfl,rfl⟩
  ·have hpi:¬ (0:Int) < (sk.length:Int):=by omega
   have HT:=hid (tp_none hp)
   clear hp
   go_wp2_with fail
   go_meet
   case rel=>exact ⟨by rw [HT.out],rfl⟩
 case rest =>
  obtain ⟨rfl,rfl⟩:=hcut
  go_upto_if 34 with fail
  go_cut [13] (fun v wx=>v=.int .i64 (bw sk)∧wx=wc)
  case first =>
   by_cases hp:1 < sk.length
   ·obtain ⟨g,c,e9,_,_,_,hc⟩:=HX2.out.sk_.at (i:=0) (by omega)
    injection e9 with ea _ ec
    subst ea ec
    have hpi:(1:Int) < (sk.length:Int):=by omega
    have hwr:IntKind.i64.wrap ((sk.length:Int) - 2)=((sk.length - 2:Nat):Int):=by rw [IntKind.wrap_i64];omega
    have hlt:((sk.length - 2:Nat):Int) < (sk.length:Int):=by omega
    have hct:=hc (sk.length - 2) (by omega)
    rw [bw_at hp] at hct
    clear hc
    go_wp2_with fail
    go_meet
    case rel=>exact ⟨rfl,rfl⟩
   ·have hpi:¬ (1:Int) < (sk.length:Int):=by omega
    have HT:=hid (bw_none hp)
    clear hp
    go_wp2_with fail
    go_meet
    case rel=>exact ⟨by rw [HT.out],rfl⟩
  case rest =>
   obtain ⟨rfl,hwc⟩:=hcut
   subst hwc
   go_wp2
   go_ret3
   exact gv_ok (k:=0) (by first | exact HX2.out.lo.alloc HX2.out.lo.size _ | exact (HX2.out.lo.alloc HX2.out.lo.size _).drew) (by decide) HTK.out.symm (by omega) (HEF.out _) (by first | exact row0 _ | exact (row0 _).next (Below.refl _ _).drew)
def nums (l:List Nat):List Int:=l.map fun (x:Nat)=>(x:Int)
def GoesEnd (i:In) (p:Nat) (w:World) (e:Ending) (w':World):Prop:=∃ v,e=.returned v∧IntRow w' v (nums (goes i p))∧Below w.heap.size w w'
theorem goes_lit {i:In} {p:Nat} {w:World} {o:Obj} (l:List Int) (hl:l.length≤2) (h:nums (goes i p)=l):GoesEnd i p w (.returned (.slice (some ⟨(w.alloc o).heap.size,0,none⟩) l.length l.length)) ((w.alloc o).alloc (.cells (l.map fun x=>Value.int .i64 x).toArray 3)):=by
 refine ⟨_,rfl,?_,?_⟩
 ·rw [h]
  exact IntRow.lit _ l (by omega)
 ·exact ((Below.refl _ _).alloc (Nat.le_refl _) _).alloc (by simp) _
set_option maxHeartbeats 1000000 in
theorem goes_any (i:In) (p:Nat) (w:World) (hp:p≤100000) (hop:1≤i.op∧i.op≤16) (ha:i.op=10∨i.op=11→0≤i.a) :
  Calls Tryz.prog 108 #[inV i,.int .i64 p] w (GoesEnd i p w):=by
 obtain ⟨op,a,n,tx⟩:=i
 unfold inV
 dsimp only at hop ha ⊢
 have hw:IntKind.i64.wrap ((p:Int)+1)=((p+1:Nat):Int):=by rw [IntKind.wrap_i64];omega
 have hsz:∀ o:Obj,(w.alloc o).heap.size=w.heap.size+1:=fun o=>by simp
 by_cases h12:op=12∨op=13
 ·have HG:Hid (nums (goes ⟨op,a,n,tx⟩ p)=[]):=hid (by simp [goes,nums,h12])
  rcases h12 with rfl | rfl
  ·clear hop ha
   go_enter Tryz.func108,Tryz.ntmps108
   go_wp2
   go_ret
   have:=goes_lit (w:=w) (o:=.cells #[.int .i64 12,.int .i64 a,.int .i64 n,.string tx] 103) [] (by simp) HG.out
   simpa using this
  ·clear hop ha
   go_enter Tryz.func108,Tryz.ntmps108
   go_wp2
   go_ret
   have:=goes_lit (w:=w) (o:=.cells #[.int .i64 13,.int .i64 a,.int .i64 n,.string tx] 103) [] (by simp) HG.out
   simpa using this
 ·by_cases h10:op=10
  ·subst h10
   obtain ⟨m,rfl⟩:∃ m:Nat,a=m:=⟨a.toNat,by have:=ha (.inl rfl);omega⟩
   have HG:Hid (nums (goes ⟨10,(m:Int),n,tx⟩ p)=[(m:Int)]):=hid (by simp [goes,nums])
   clear hop ha h12
   go_enter Tryz.func108,Tryz.ntmps108
   go_wp2
   go_ret
   have:=goes_lit (w:=w) (o:=.cells #[.int .i64 10,.int .i64 m,.int .i64 n,.string tx] 103) [(m:Int)] (by simp) HG.out
   simpa using this
  ·by_cases h11:op=11
   ·subst h11
    obtain ⟨m,rfl⟩:∃ m:Nat,a=m:=⟨a.toNat,by have:=ha (.inr rfl);omega⟩
    have HG:Hid (nums (goes ⟨11,(m:Int),n,tx⟩ p)=[(m:Int),((p+1:Nat):Int)]):=hid (by simp [goes,nums])
    clear hop ha h12 h10
    go_enter Tryz.func108,Tryz.ntmps108
    go_wp2
    go_ret
    have:=goes_lit (w:=w) (o:=.cells #[.int .i64 11,.int .i64 m,.int .i64 n,.string tx] 103) [(m:Int),((p+1:Nat):Int)] (by simp) HG.out
    simpa using this
   ·have HG:Hid (nums (goes ⟨op,a,n,tx⟩ p)=[((p+1:Nat):Int)]):=hid (by simp [goes,nums,h12,h10,h11])
    have e10:(op == 10)=false:=by simpa using h10
    have e11:(op == 11)=false:=by simpa using h11
    have e12:(op == 12)=false:=by simp;omega
    have e13:(op == 13)=false:=by simp;omega
    clear hop ha h12 h10 h11
    go_enter Tryz.func108,Tryz.ntmps108
    go_wp2
    go_ret
    have:=goes_lit (w:=w) (o:=.cells #[.int .i64 op,.int .i64 a,.int .i64 n,.string tx] 103) [((p+1:Nat):Int)] (by simp) HG.out
    simpa using this
set_option maxHeartbeats 1000000 in
theorem same_any {w:World} {a b:Value} {la lb:List Int} (ha:IntRow w a la) (hb:IntRow w b lb) (hl:la.length≤1000) :
  Calls Tryz.prog 128 #[a,b] w fun e w'=>e=.returned (.bool (decide (la=lb)))∧Below w.heap.size w w':=by
 have HA:=hid ha
 have HB:=hid hb
 obtain ⟨adA,cA,rfl⟩:=ha.sl
 obtain ⟨adB,cB,rfl⟩:=hb.sl
 clear ha hb
 go_enter Tryz.func128,Tryz.ntmps128
 by_cases hle:la.length=lb.length
 ·have hlf:((la.length:Int) != (lb.length:Int))=false:=by simp;omega
  have hle1:la.length≤lb.length:=by omega
  have hle2:lb.length≤la.length:=by omega
  clear hle
  go_wp2_with fail
  go_loopw [5] (fun a wr=>∃ j:Nat,j≤la.length∧a=.int .i64 j∧Below w.heap.size w wr∧∀ i,i < j→la.getD i 0=lb.getD i 0) (fun a _=>la.length - (intOf a).toNat)
  case atStart=>exact ⟨0,Nat.zero_le _,rfl,Below.refl _ _,fun i hi=>absurd hi (Nat.not_lt_zero _)⟩
  case round =>
   obtain ⟨j,hj,rfl,hbr,hsame⟩:=hrel
   have HBR:=hid hbr
   have HSM:=hid hsame
   clear hbr hsame
   by_cases hlt:j < la.length
   ·have hlti:(j:Int) < (la.length:Int):=by omega
    have hltb:(j:Int) < (lb.length:Int):=by omega
    have hltn:j < lb.length:=by omega
    obtain ⟨gA,cA2,e9,_,_,_,hcA⟩:=(HA.out.next HBR.out).at hlt
    injection e9 with ea _ ec
    subst ea ec
    obtain ⟨gB,cB2,e9,_,_,_,hcB⟩:=(HB.out.next HBR.out).at hltn
    injection e9 with ea _ ec
    subst ea ec
    have kA:=hcA j hlt
    have kB:=hcB j hltn
    obtain ⟨x,hx⟩:∃ x,la.getD j 0=x:=⟨_,rfl⟩
    obtain ⟨y,hy⟩:∃ y,lb.getD j 0=y:=⟨_,rfl⟩
    rw [hx] at kA
    rw [hy] at kB
    have HXX:=hid hx
    have HYY:=hid hy
    clear hx hy hcA hcB
    by_cases hxy:x=y
    ·subst hxy
     have hxf:(x != x)=false:=by simp
     go_wp2_with fail
     go_quiet (fail)
     go_wp2
     go_roundw
     case rel =>
      refine ⟨j+1,by omega,by go_num,below_drewN HBR.out _,fun i hi=>?_⟩
      by_cases e:i=j
      ·subst e;rw [HXX.out,HYY.out]
      ·exact HSM.out i (by omega)
     case measure=>simp [intOf];omega
    ·have hxf:(x != y)=true:=by simpa using hxy
     have HNE:=hid hxy
     clear hxy
     go_wp2_with fail
     go_quiet (fail)
     go_wp2
     go_ret
     refine ⟨ret_bool ?_,below_drewN HBR.out _⟩
     symm
     rw [decide_eq_false_iff_not]
     intro h
     apply HNE.out
     rw [← HXX.out,← HYY.out,h]
   ·obtain rfl:j=la.length:=by omega
    go_wp2
    go_ret
    refine ⟨ret_bool ?_,HBR.out⟩
    symm
    rw [decide_eq_true_iff]
    apply List.ext_getElem (by omega)
    intro i h1 h2
    have:=HSM.out i h1
    simpa [List.getD_eq_getElem?_getD,h1,h2] using this
 ·have hlf:((la.length:Int) != (lb.length:Int))=true:=by simp;omega
  go_wp2
  go_ret
  refine ⟨ret_bool ?_,Below.refl _ _⟩
  symm
  rw [decide_eq_false_iff_not]
  intro h
  exact hle (by rw [h])
end Go.Proofs.YtbkmglknbflkhaaGreatDoor.C
