import Derived.Test.YtbkmglknbflkhaaGreatDoorJ21
namespace Go.Proofs.YtbkmglknbflkhaaGreatDoor.R
open Go.RowKit
set_option maxRecDepth 20000
set_option maxHeartbeats 4000000 in
theorem eqFm_same (x:Fm) {u0 v0 u1 v1:Value} {B:Nat} (w:World) (hx:LoFm x) (k0:SVaR B w u0 x.slots) (l0:SVaR B w v0 x.slots) (k1:SVaR B w u1 x.stack) (l1:SVaR B w v1 x.stack) :
  Calls Tryz.prog 70 #[.agg #[.int .i64 x.code,.int .i64 x.fn,.int .i64 x.pl,u0,u1],.agg #[.int .i64 x.code,.int .i64 x.fn,.int .i64 x.pl,v0,v1]] w fun e w'=>e=.returned (.bool true)∧Below w.heap.size w w':=by
 have i0:(x.code != x.code)=false:=by simp
 have i1:(x.fn != x.fn)=false:=by simp
 have i2:(x.pl != x.pl)=false:=by simp
 have K0:=hid (And.intro k0 l0)
 obtain ⟨gu0,rfl⟩:=k0.sl
 obtain ⟨gv0,rfl⟩:=l0.sl
 clear k0 l0
 have K1:=hid (And.intro k1 l1)
 obtain ⟨gu1,rfl⟩:=k1.sl
 obtain ⟨gv1,rfl⟩:=l1.sl
 clear k1 l1
 have HLO:=hid hx
 clear hx
 have HB0:=hid (B2.start w (.cells #[.int .i64 x.code,.int .i64 x.fn,.int .i64 x.pl,.slice (some ⟨gu0,0,none⟩) x.slots.length x.slots.length,.slice (some ⟨gu1,0,none⟩) x.stack.length x.stack.length] 86) (.cells #[.int .i64 x.code,.int .i64 x.fn,.int .i64 x.pl,.slice (some ⟨gv0,0,none⟩) x.slots.length x.slots.length,.slice (some ⟨gv1,0,none⟩) x.stack.length x.stack.length] 86))
 go_enter Tryz.func70,Tryz.ntmps70
 go_wp2_with fail
 refine (eqSVa_same x.slots _ HLO.out.1 (K0.out.1.next HB0.out.lo) (K0.out.2.next HB0.out.lo)).mono ?_
 rintro e w1 ⟨rfl,hb0⟩
 have HB1:=hid (HB0.out.next hb0)
 clear hb0
 have p1_4:w1.cell? ⟨w.heap.size,4,none⟩=some (.slice (some ⟨gu1,0,none⟩) x.stack.length x.stack.length):=row_cell HB1.out.e 4
 have q1_4:w1.cell? ⟨w.heap.size+1,4,none⟩=some (.slice (some ⟨gv1,0,none⟩) x.stack.length x.stack.length):=row_cell HB1.out.f 4
 go_wp2_with fail
 refine (eqSVa_same x.stack _ HLO.out.2 (K1.out.1.next HB1.out.lo) (K1.out.2.next HB1.out.lo)).mono ?_
 rintro e w2 ⟨rfl,hb1⟩
 have HB2:=hid (HB1.out.next hb1)
 clear hb1
 go_wp2
 go_ret
 exact ⟨rfl,HB2.out.lo⟩
set_option maxHeartbeats 4000000 in
theorem eqSFm_same (l:List Fm) {u v:Value} {B:Nat} (w:World) (hx:LoFmS l) (k0:SFmR B w u l) (l0:SFmR B w v l) :
  Calls Tryz.prog 40 #[u,v] w fun e w'=>e=.returned (.bool true)∧Below w.heap.size w w':=by
 have H1:=hid k0
 have H2:=hid l0
 have HX:=hid hx
 have hN:l.length≤1048576:=hx.1
 obtain ⟨gu,rfl⟩:=k0.sl
 obtain ⟨gv,rfl⟩:=l0.sl
 clear k0 l0 hx
 have hne:((l.length:Int) != (l.length:Int))=false:=by simp
 go_enter Tryz.func40,Tryz.ntmps40
 go_wp2
 go_loopw [5] (fun i wr=>∃ j:Nat,j≤l.length∧i=.int .i64 j∧Below w.heap.size w wr) (fun i _=>l.length - (intOf i).toNat)
 case atStart=>exact ⟨0,Nat.zero_le _,rfl,Below.refl _ _⟩
 case round =>
  obtain ⟨j,hj,rfl,hbw⟩:=hrel
  have HBW:=hid hbw
  clear hbw
  by_cases hlt:j < l.length
  ·obtain ⟨g,e9,_,hgu,u0,u1,a0,a1,a2,a3,a4,r0,r1⟩:=(H1.out.next HBW.out).at hlt
   injection e9 with ea en ec
   injection ea with eb
   injection eb with ec2
   subst ec2
   obtain ⟨g2,e8,_,hgv,v0,v1,b0,b1,b2,b3,b4,q0,q1⟩:=(H2.out.next HBW.out).at hlt
   injection e8 with ea2 en2 ec3
   injection ea2 with eb2
   injection eb2 with ec4
   subst ec4
   clear en ec en2 ec3
   have HLO:=hid (HX.out.2 j hlt)
   obtain ⟨x,hx⟩:∃ x,l.getD j fm0=x:=⟨_,rfl⟩
   rw [hx] at HLO a0 b0 a1 b1 a2 b2 r0 q0 r1 q1
   clear hx
   have HT0:=hid (And.intro (r0.mono (B':=0) (Nat.zero_le _)) (q0.mono (B':=0) (Nat.zero_le _)))
   obtain ⟨gr0,rfl⟩:=r0.sl
   obtain ⟨gq0,rfl⟩:=q0.sl
   clear r0 q0
   have HT1:=hid (And.intro (r1.mono (B':=0) (Nat.zero_le _)) (q1.mono (B':=0) (Nat.zero_le _)))
   obtain ⟨gr1,rfl⟩:=r1.sl
   obtain ⟨gq1,rfl⟩:=q1.sl
   clear r1 q1
   have A0:=fun p:Gr wr=>(p.h.cell (p:=⟨_,_,none⟩) hgu).trans a0
   have C0:=fun p:Gr wr=>(p.h.cell (p:=⟨_,_,none⟩) hgv).trans b0
   have A1:=fun p:Gr wr=>(p.h.cell (p:=⟨_,_,none⟩) hgu).trans a1
   have C1:=fun p:Gr wr=>(p.h.cell (p:=⟨_,_,none⟩) hgv).trans b1
   have A2:=fun p:Gr wr=>(p.h.cell (p:=⟨_,_,none⟩) hgu).trans a2
   have C2:=fun p:Gr wr=>(p.h.cell (p:=⟨_,_,none⟩) hgv).trans b2
   have A3:=fun p:Gr wr=>(p.h.cell (p:=⟨_,_,none⟩) hgu).trans a3
   have C3:=fun p:Gr wr=>(p.h.cell (p:=⟨_,_,none⟩) hgv).trans b3
   have A4:=fun p:Gr wr=>(p.h.cell (p:=⟨_,_,none⟩) hgu).trans a4
   have C4:=fun p:Gr wr=>(p.h.cell (p:=⟨_,_,none⟩) hgv).trans b4
   clear a0 b0 a1 b1 a2 b2 a3 b3 a4 b4
   go_wp2_with fail
   have hne2:Nonempty (Gr wr):=⟨⟨wr,Below.refl _ _⟩⟩
   refine wp_region_gr (by kernel_rfl) (by kernel_rfl) ?_
   repeat (go_big_quiet_step (first | (go_at_call 70;refine Calls.gr_of (v:=.bool true) fun hpw=>?_;exact eqFm_same x _ HLO.out (HT0.out.1.next hpw) (HT0.out.2.next hpw) (HT1.out.1.next hpw) (HT1.out.2.next hpw))))
   refine wpQuiet_nil ?_
   intro _ hw'
   obtain ⟨pw,rfl⟩:=hw'
   have HB4:=hid (HBW.out.trans (pw.h.mono HBW.out.size))
   clear A0 C0 A1 C1 A2 C2 A3 C3 A4 C4
   go_wp2
   go_roundw
   case rel=>exact ⟨j+1,by omega,by go_num,HB4.out⟩
   case measure=>simp [intOf];omega
  ·obtain rfl:j=l.length:=by omega
   go_wp2
   go_ret
   exact ⟨rfl,HBW.out⟩
set_option maxHeartbeats 2000000 in
theorem szFm_any (x:Fm) {v0 v1:Value} (l:Int) (w:World) (hl:0≤l) (hl2:l≤1048576) (hx:OkFm x) (k0:SVaA w v0 x.slots) (k1:SVaA w v1 x.stack) :
  Calls Tryz.prog 50 #[.agg #[.int .i64 x.code,.int .i64 x.fn,.int .i64 x.pl,v0,v1],.int .i64 l] w (SzEnd l (wFm x) w):=by
 have HX:=hid hx
 obtain ⟨hx0,hx1,hx2,hx3,hx4⟩:=hx
 have HB0:=hid (B1.start w (.cells #[.int .i64 x.code,.int .i64 x.fn,.int .i64 x.pl,v0,v1] 78))
 have K0:=hid (k0.next HB0.out.lo)
 have K1:=hid (k1.next HB0.out.lo)
 obtain ⟨ad0,cp0,rfl⟩:=k0.sl
 obtain ⟨ad1,cp1,rfl⟩:=k1.sl
 clear k0 k1
 go_enter Tryz.func50,Tryz.ntmps50
 go_wp2_with fail
 refine (szSVa_any x.slots _ _ (by omega) (by omega) hx3 (K0.out)).mono ?_
 rintro e w1 ⟨⟨r0,rfl,p0,q0,h0⟩,hb0⟩
 have HP0:=hid h0
 have HN0:=hid hb0
 have HB1:=hid (HB0.out.next hb0)
 clear h0 hb0
 have b0_4:w1.cell? ⟨w.heap.size,4,none⟩=some (.slice ad1 x.stack.length cp1):=row_cell HB1.out.e 4
 by_cases c3:r0 < 0
 ·go_wp2
  go_ret
  exact ⟨⟨_,rfl,by omega,by omega,fun h=>by omega⟩,HB1.out.lo⟩
 ·go_wp2_with fail
  refine (szSVa_any x.stack _ _ (by omega) (by omega) hx4 (K1.out.next HN0.out)).mono ?_
  rintro e w2 ⟨⟨r1,rfl,p1,q1,h1⟩,hb1⟩
  have HP1:=hid h1
  have HN1:=hid (HN0.out.trans (hb1.mono HN0.out.size))
  have HB2:=hid (HB1.out.next hb1)
  clear h1 hb1
  by_cases c4:r1 < 0
  ·go_wp2
   go_ret
   exact ⟨⟨_,rfl,by omega,by omega,fun h=>by omega⟩,HB2.out.lo⟩
  ·go_wp2
   go_ret
   refine ⟨⟨_,rfl,by omega,by omega,fun h=>?_⟩,HB2.out.lo⟩
   have eHP0:=HP0.out (by omega)
   have eHP1:=HP1.out (by omega)
   simp only [wFm]
   omega
set_option maxHeartbeats 2000000 in
theorem szSFm_any (l:List Fm) {v:Value} (m:Int) (w:World) (hl:0≤m) (hl2:m≤1048576) (hx:OkFmS l) (k0:SFmA w v l) :
  Calls Tryz.prog 18 #[v,.int .i64 m] w (SzEnd m (wSFm l l.length) w):=by
 have HX:=hid hx.2
 have hN:=small hx.1
 have HK:=hid k0
 obtain ⟨ad,cap,rfl⟩:=k0.sl
 clear hx k0
 by_cases h1:m - (l.length:Int) < 0
 ·go_enter Tryz.func18,Tryz.ntmps18
  go_wp2
  go_ret
  exact ⟨⟨_,rfl,by omega,by omega,fun h=>by omega⟩,Below.refl _ _⟩
 ·go_enter Tryz.func18,Tryz.ntmps18
  go_wp2
  go_loopw [1,5] (fun q i wr=>∃ (j:Nat) (r:Int),j≤l.length∧i=.int .i64 j∧q=.int .i64 r∧0≤r∧r≤m∧(Hid (r+(l.length:Int)+(wSFm l j:Int)=m+(j:Int)))∧Below w.heap.size w wr) (fun _ i _=>l.length - (intOf i).toNat)
  case atStart=>exact ⟨0,_,Nat.zero_le _,rfl,rfl,by omega,by omega,(by show _=_;simp [wSFm]),Below.refl _ _⟩
  case round =>
   obtain ⟨j,r,hj,rfl,rfl,hr0,hr1,HS,hbw⟩:=hrel
   have HBW:=hid hbw
   clear hbw
   by_cases hlt:j < l.length
   ·obtain ⟨a,c,e9,hal,v0,v1,⟨c0,c1,c2,c3,c4⟩,t0,t1⟩:=(HK.out.next HBW.out).at hlt
    injection e9 with ea en ec
    clear en
    subst ea ec
    obtain ⟨x,hx⟩:∃ x,l.getD j fm0=x:=⟨_,rfl⟩
    have HXE:=hid hx
    have HOK:=hid (HX.out j hlt)
    rw [hx] at HOK c0 c1 c2 t0 t1
    clear hx
    have HT0:=hid t0
    obtain ⟨ae0,ce0,rfl⟩:=t0.sl
    clear t0
    have HT1:=hid t1
    obtain ⟨ae1,ce1,rfl⟩:=t1.sl
    clear t1
    go_wp2_with fail
    refine (szFm_any x _ _ (by omega) (by omega) HOK.out HT0.out HT1.out).mono ?_
    rintro e w1 ⟨⟨r2,rfl,hr3,hr4,hr5⟩,hb1⟩
    have HB1:=hid (HBW.out.trans (hb1.mono HBW.out.size))
    have HR5:=hid hr5
    clear hb1 hr5 c0 c1 c2 c3 c4
    by_cases hs:r2 < 0
    ·go_wp2
     go_ret
     exact ⟨⟨-1,rfl,by omega,by omega,fun h=>by omega⟩,HB1.out⟩
    ·have HS2:Hid (r2+(l.length:Int)+(wSFm l (j+1):Int)=m+((j+1:Nat):Int)):=by
      show _=_
      have:=HS.out
      have:=HR5.out (by omega)
      simp only [wSFm,HXE.out]
      omega
     go_wp2
     go_roundw
     case rel=>exact ⟨j+1,r2,by omega,by go_num,rfl,by omega,by omega,HS2,HB1.out⟩
     case measure=>simp [intOf];omega
   ·obtain rfl:j=l.length:=by omega
    go_wp2
    go_ret
    exact ⟨⟨r,rfl,by omega,hr1,fun _=>by have:=HS.out;omega⟩,HBW.out⟩
set_option maxHeartbeats 4000000 in
theorem toFm_any (x:Fm) {v0 v1:Value} (w:World) (hx:LoFm x) (k0:SVaA w v0 x.slots) (k1:SVaA w v1 x.stack) :
  Calls Tryz.prog 58 #[.agg #[.int .i64 x.code,.int .i64 x.fn,.int .i64 x.pl,v0,v1]] w fun e w'=>∃ u0 u1,e=.returned (.agg #[.int .i64 x.code,.int .i64 x.fn,.int .i64 x.pl,u0,u1])∧SVaR w.heap.size w' u0 x.slots∧SVaR w.heap.size w' u1 x.stack∧Below w.heap.size w w':=by
 have K0:=hid k0
 have K1:=hid k1
 obtain ⟨ad0,cp0,rfl⟩:=k0.sl
 obtain ⟨ad1,cp1,rfl⟩:=k1.sl
 clear k0 k1
 have HLO:=hid hx
 clear hx
 have HX0:=hid (B3.start w (.cells #[.int .i64 x.code,.int .i64 x.fn,.int .i64 x.pl,.slice ad0 x.slots.length cp0,.slice ad1 x.stack.length cp1] 78) #[.int .i64 0,.int .i64 0,.int .i64 0,.slice none 0 0,.slice none 0 0] #[.int .i64 0,.int .i64 0,.int .i64 0,.slice none 0 0,.slice none 0 0] 86)
 obtain ⟨W0,hW0⟩:∃ W,((w.alloc (.cells #[.int .i64 x.code,.int .i64 x.fn,.int .i64 x.pl,.slice ad0 x.slots.length cp0,.slice ad1 x.stack.length cp1] 78)).alloc (.cells #[.int .i64 0,.int .i64 0,.int .i64 0,.slice none 0 0,.slice none 0 0] 86)).alloc (.cells #[.int .i64 0,.int .i64 0,.int .i64 0,.slice none 0 0,.slice none 0 0] 86)=W:=⟨_,rfl⟩
 rw [hW0] at HX0
 have a0_0:W0.cell? ⟨w.heap.size,0,none⟩=some (.int .i64 x.code):=row_cell HX0.out.e 0
 have a0_1:W0.cell? ⟨w.heap.size,1,none⟩=some (.int .i64 x.fn):=row_cell HX0.out.e 1
 have a0_2:W0.cell? ⟨w.heap.size,2,none⟩=some (.int .i64 x.pl):=row_cell HX0.out.e 2
 have a0_3:W0.cell? ⟨w.heap.size,3,none⟩=some (.slice ad0 x.slots.length cp0):=row_cell HX0.out.e 3
 have o0_0:W0.cell? ⟨w.heap.size+1+1,0,none⟩=some (.int .i64 0):=row_cell HX0.out.o 0
 have z0_0:W0.frozen? ⟨w.heap.size+1+1,0,none⟩=false:=(row_room HX0.out.o (i:=0) (by simp)).2
 have o0_1:W0.cell? ⟨w.heap.size+1+1,1,none⟩=some (.int .i64 0):=row_cell HX0.out.o 1
 have z0_1:W0.frozen? ⟨w.heap.size+1+1,1,none⟩=false:=(row_room HX0.out.o (i:=1) (by simp)).2
 have o0_2:W0.cell? ⟨w.heap.size+1+1,2,none⟩=some (.int .i64 0):=row_cell HX0.out.o 2
 have z0_2:W0.frozen? ⟨w.heap.size+1+1,2,none⟩=false:=(row_room HX0.out.o (i:=2) (by simp)).2
 go_enter Tryz.func58,Tryz.ntmps58
 go_wp2_with fail
 clear hW0
 have HY0:=hid (((HX0.out.set 0 (.int .i64 x.code)).set 1 (.int .i64 x.fn)).set 2 (.int .i64 x.pl))
 obtain ⟨V0,hV0⟩:∃ V,(((W0.setCell ⟨w.heap.size+1+1,0,none⟩ (.int .i64 x.code)).setCell ⟨w.heap.size+1+1,1,none⟩ (.int .i64 x.fn)).setCell ⟨w.heap.size+1+1,2,none⟩ (.int .i64 x.pl))=V:=⟨_,rfl⟩
 rw [hV0] at HY0 ⊢
 clear hV0
 clear a0_0 a0_1 a0_2 a0_3 o0_0 z0_0 o0_1 z0_1 o0_2 z0_2 HX0
 refine (toSVa_any x.slots V0 HLO.out.1 (K0.out.next HY0.out.lo)).mono ?_
 rintro e w1 ⟨u0,rfl,r0,hb0⟩
 have HRu0:=hid (r0.mono (B':=w.heap.size+3) HY0.out.sz)
 obtain ⟨gu0,rfl⟩:=r0.sl
 clear r0
 have HX1:=hid (HY0.out.next hb0)
 clear hb0 HY0
 have a1_3:w1.cell? ⟨w.heap.size,3,none⟩=some (.slice ad0 x.slots.length cp0):=row_cell HX1.out.e 3
 have a1_4:w1.cell? ⟨w.heap.size,4,none⟩=some (.slice ad1 x.stack.length cp1):=row_cell HX1.out.e 4
 have o1_3:w1.cell? ⟨w.heap.size+1+1,3,none⟩=some (.slice none 0 0):=row_cell HX1.out.o 3
 have z1_3:w1.frozen? ⟨w.heap.size+1+1,3,none⟩=false:=(row_room HX1.out.o (i:=3) (by simp)).2
 go_wp2_with fail
 have HY1:=hid (HX1.out.set 3 (.slice (some ⟨gu0,0,none⟩) x.slots.length x.slots.length))
 have HRu0_1:=hid (HRu0.out.set (b:=w.heap.size+1+1) (by omega) 3 (.slice (some ⟨gu0,0,none⟩) x.slots.length x.slots.length))
 obtain ⟨V1,hV1⟩:∃ V,(w1.setCell ⟨w.heap.size+1+1,3,none⟩ (.slice (some ⟨gu0,0,none⟩) x.slots.length x.slots.length))=V:=⟨_,rfl⟩
 rw [hV1] at HY1 HRu0_1 ⊢
 clear hV1
 clear a1_3 a1_4 o1_3 z1_3 HX1 HRu0
 refine (toSVa_any x.stack V1 HLO.out.2 (K1.out.next HY1.out.lo)).mono ?_
 rintro e w2 ⟨u1,rfl,r1,hb1⟩
 have HRu1:=hid (r1.mono (B':=w.heap.size+3) HY1.out.sz)
 obtain ⟨gu1,rfl⟩:=r1.sl
 clear r1
 have HX2:=hid (HY1.out.next hb1)
 have HRu0:=hid (HRu0_1.out.next hb1)
 clear HRu0_1
 clear hb1 HY1
 have o2_0:w2.cell? ⟨w.heap.size+1+1,0,none⟩=some (.int .i64 x.code):=row_cell HX2.out.o 0
 have y2_0:w2.cell? ⟨w.heap.size+1,0,none⟩=some (.int .i64 0):=row_cell HX2.out.r 0
 have f2_0:w2.frozen? ⟨w.heap.size+1,0,none⟩=false:=(row_room HX2.out.r (i:=0) (by simp)).2
 have o2_1:w2.cell? ⟨w.heap.size+1+1,1,none⟩=some (.int .i64 x.fn):=row_cell HX2.out.o 1
 have y2_1:w2.cell? ⟨w.heap.size+1,1,none⟩=some (.int .i64 0):=row_cell HX2.out.r 1
 have f2_1:w2.frozen? ⟨w.heap.size+1,1,none⟩=false:=(row_room HX2.out.r (i:=1) (by simp)).2
 have o2_2:w2.cell? ⟨w.heap.size+1+1,2,none⟩=some (.int .i64 x.pl):=row_cell HX2.out.o 2
 have y2_2:w2.cell? ⟨w.heap.size+1,2,none⟩=some (.int .i64 0):=row_cell HX2.out.r 2
 have f2_2:w2.frozen? ⟨w.heap.size+1,2,none⟩=false:=(row_room HX2.out.r (i:=2) (by simp)).2
 have o2_3:w2.cell? ⟨w.heap.size+1+1,3,none⟩=some (.slice (some ⟨gu0,0,none⟩) x.slots.length x.slots.length):=row_cell HX2.out.o 3
 have y2_3:w2.cell? ⟨w.heap.size+1,3,none⟩=some (.slice none 0 0):=row_cell HX2.out.r 3
 have f2_3:w2.frozen? ⟨w.heap.size+1,3,none⟩=false:=(row_room HX2.out.r (i:=3) (by simp)).2
 have o2_4:w2.cell? ⟨w.heap.size+1+1,4,none⟩=some (.slice none 0 0):=row_cell HX2.out.o 4
 have y2_4:w2.cell? ⟨w.heap.size+1,4,none⟩=some (.slice none 0 0):=row_cell HX2.out.r 4
 have f2_4:w2.frozen? ⟨w.heap.size+1,4,none⟩=false:=(row_room HX2.out.r (i:=4) (by simp)).2
 have z2_4:w2.frozen? ⟨w.heap.size+1+1,4,none⟩=false:=(row_room HX2.out.o (i:=4) (by simp)).2
 go_wp2
 refine bodyPost_ret (v:=.agg #[.int .i64 x.code,.int .i64 x.fn,.int .i64 x.pl,.slice (some ⟨gu0,0,none⟩) x.slots.length x.slots.length,.slice (some ⟨gu1,0,none⟩) x.stack.length x.stack.length]) (by simp [results,Tryz.results58,go_sem,y2_0,y2_1,y2_2,y2_3,y2_4]) rfl ⟨_,_,rfl,?_,?_,?_⟩
 ·exact ((((((HRu0.out.set (by omega) _ _).set (by omega) _ _).set (by omega) _ _).set (by omega) _ _).set (by omega) _ _).set (by omega) _ _).mono (by omega)
 ·exact ((((((HRu1.out.set (by omega) _ _).set (by omega) _ _).set (by omega) _ _).set (by omega) _ _).set (by omega) _ _).set (by omega) _ _).mono (by omega)
 ·exact (below_set (below_set (below_set (below_set (below_set (below_set HX2.out.lo _ _ (by omega) _) _ _ (by omega) _) _ _ (by omega) _) _ _ (by omega) _) _ _ (by omega) _) _ _ (by omega) _)
theorem info_Fm:(Tryz.prog.info? 86).map (fun i=>(i.zero,i.size,i.bytes))=some (some (.agg #[.int .i64 0,.int .i64 0,.int .i64 0,.slice none 0 0,.slice none 0 0]),5,72):=by kernel_rfl
set_option maxHeartbeats 4000000 in
theorem toSFm_any (l:List Fm) {v:Value} (w:World) (hx:LoFmS l) (k0:SFmA w v l) :
  Calls Tryz.prog 30 #[v] w fun e w'=>∃ u,e=.returned u∧SFmR w.heap.size w' u l∧Below w.heap.size w w':=by
 have HK:=hid k0
 have HX:=hid hx
 have hN:l.length≤1048576:=hx.1
 obtain ⟨ad,cap,rfl⟩:=k0.sl
 clear hx k0
 obtain ⟨i0,hi,hz0,hz1,hz2⟩:=info_parts info_Fm
 have HHI:=hid (And.intro hi (And.intro hz0 (And.intro hz1 hz2)))
 clear hi hz0 hz1
 go_enter Tryz.func30,Tryz.ntmps30
 go_wp2_with (at_make;refine wpList_make_full _ rfl _ _ 31 rfl w.heap.size 86 i0 (.agg #[.int .i64 0,.int .i64 0,.int .i64 0,.slice none 0 0,.slice none 0 0]) 5 Tryz.underlying31 HHI.out.1 HHI.out.2.1 HHI.out.2.2.1 _ _ _ _ l.length rfl rfl rfl rfl (by rw [hz2];omega) (by unfold maxLen;omega) (Nat.le_refl _) ?_;intro w1 o1 g1)
 have HF0:Hid (SFmF w.heap.size w1 l 0):=by
  obtain ⟨h1,⟨h2,_⟩ | ⟨g,c,cur,e,_,h4,_,_,h7,_⟩⟩:=o1
  ·cases h2
  ·cases e
   exact ⟨cur,h4,h7,fun i h=>absurd h (Nat.not_lt_zero _)⟩
 have HB0:=hid ((Below.refl w.heap.size w).grown g1 (Nat.le_refl _) (fun q e=>by cases e))
 clear o1 g1
 go_loopw [4] (fun i wr=>∃ j:Nat,j≤l.length∧i=.int .i64 j∧SFmF w.heap.size wr l j∧Below w.heap.size w wr) (fun i _=>l.length - (intOf i).toNat)
 case atStart=>exact ⟨0,Nat.zero_le _,rfl,HF0.out,HB0.out⟩
 case round =>
  obtain ⟨j,hj,rfl,hfi,hbw⟩:=hrel
  have HFI:=hid hfi
  have HBW:=hid hbw
  have hgl:=hfi.lt
  clear hfi hbw
  by_cases hlt:j < l.length
  ·obtain ⟨a,c,e9,hal,v0,v1,⟨c0,c1,c2,c3,c4⟩,t0,t1⟩:=(HK.out.next HBW.out).at hlt
   injection e9 with ea en ec
   clear en
   subst ea ec
   have HLE:=hid (HX.out.2 j hlt)
   obtain ⟨x,hx⟩:∃ x,l.getD j fm0=x:=⟨_,rfl⟩
   have HXE:=hid hx
   rw [hx] at HLE c0 c1 c2 t0 t1
   clear hx
   have HT0:=hid t0
   obtain ⟨ae0,ce0,rfl⟩:=t0.sl
   clear t0
   have HT1:=hid t1
   obtain ⟨ae1,ce1,rfl⟩:=t1.sl
   clear t1
   go_wp2_with fail
   refine (toFm_any x _ HLE.out HT0.out HT1.out).mono ?_
   rintro e w2 ⟨u0,u1,rfl,s0,s1,hb2⟩
   have HF2:=hid (HFI.out.keep fun i hi hl=>hb2.block i hl)
   have HFX:=hid (HF2.out.step hlt (by rw [HXE.out];exact s0.mono (by omega)) (by rw [HXE.out];exact s1.mono (by omega)))
   rw [HXE.out] at HFX
   obtain ⟨gq0,rfl⟩:=s0.sl
   clear s0
   obtain ⟨gq1,rfl⟩:=s1.sl
   clear s1
   obtain ⟨⟨w_0,x0⟩,y0⟩:=HF2.out.room (i:=j * 5) (by omega)
   obtain ⟨⟨w_1,x1⟩,y1⟩:=HF2.out.room (i:=j * 5+1) (by omega)
   obtain ⟨⟨w_2,x2⟩,y2⟩:=HF2.out.room (i:=j * 5+2) (by omega)
   obtain ⟨⟨w_3,x3⟩,y3⟩:=HF2.out.room (i:=j * 5+3) (by omega)
   obtain ⟨⟨w_4,x4⟩,y4⟩:=HF2.out.room (i:=j * 5+4) (by omega)
   have HBX:=hid (HBW.out.trans (hb2.mono HBW.out.size))
   clear hb2 c0 c1 c2 c3 c4
   go_wp2
   go_roundw
   case rel=>exact ⟨j+1,by omega,by go_num,HFX.out,(below_set (below_set (below_set (below_set (below_set HBX.out _ _ (Nat.le_refl _) _) _ _ (Nat.le_refl _) _) _ _ (Nat.le_refl _) _) _ _ (Nat.le_refl _) _) _ _ (Nat.le_refl _) _)⟩
   case measure=>simp [intOf];omega
  ·obtain rfl:j=l.length:=by omega
   go_wp2
   go_ret
   exact ⟨_,rfl,⟨w.heap.size,rfl,Nat.le_refl _,HFI.out⟩,HBW.out⟩
set_option maxHeartbeats 4000000 in
theorem eqFl_same (x:Fl) (w:World) :
  Calls Tryz.prog 71 #[.agg #[.string x.name,.string x.text],.agg #[.string x.name,.string x.text]] w fun e w'=>e=.returned (.bool true)∧Below w.heap.size w w':=by
 have e0:(x.name.toList != x.name.toList)=false:=by simp
 have e1:(x.text.toList != x.text.toList)=false:=by simp
 have HB0:=hid (B2.start w (.cells #[.string x.name,.string x.text] 55) (.cells #[.string x.name,.string x.text] 55))
 go_enter Tryz.func71,Tryz.ntmps71
 go_wp2
 go_ret
 exact ⟨rfl,HB0.out.lo⟩
set_option maxHeartbeats 4000000 in
theorem eqSFl_same (l:List Fl) {u v:Value} {B:Nat} (w:World) (hx:LoFlS l) (k0:SFlR B w u l) (l0:SFlR B w v l) :
  Calls Tryz.prog 41 #[u,v] w fun e w'=>e=.returned (.bool true)∧Below w.heap.size w w':=by
 have H1:=hid k0
 have H2:=hid l0
 have HX:=hid hx
 have hN:l.length≤1048576:=hx.1
 obtain ⟨gu,rfl⟩:=k0.sl
 obtain ⟨gv,rfl⟩:=l0.sl
 clear k0 l0 hx
 have hne:((l.length:Int) != (l.length:Int))=false:=by simp
 go_enter Tryz.func41,Tryz.ntmps41
 go_wp2
 go_loopw [5] (fun i wr=>∃ j:Nat,j≤l.length∧i=.int .i64 j∧Below w.heap.size w wr) (fun i _=>l.length - (intOf i).toNat)
 case atStart=>exact ⟨0,Nat.zero_le _,rfl,Below.refl _ _⟩
 case round =>
  obtain ⟨j,hj,rfl,hbw⟩:=hrel
  have HBW:=hid hbw
  clear hbw
  by_cases hlt:j < l.length
  ·obtain ⟨g,e9,_,hgu,a0,a1⟩:=(H1.out.next HBW.out).at hlt
   injection e9 with ea en ec
   injection ea with eb
   injection eb with ec2
   subst ec2
   obtain ⟨g2,e8,_,hgv,b0,b1⟩:=(H2.out.next HBW.out).at hlt
   injection e8 with ea2 en2 ec3
   injection ea2 with eb2
   injection eb2 with ec4
   subst ec4
   clear en ec en2 ec3
   have HLO:=hid (HX.out.2 j hlt)
   obtain ⟨x,hx⟩:∃ x,l.getD j fl0=x:=⟨_,rfl⟩
   rw [hx] at HLO a0 b0 a1 b1
   clear hx
   have A0:=fun p:Gr wr=>(p.h.cell (p:=⟨_,_,none⟩) hgu).trans a0
   have C0:=fun p:Gr wr=>(p.h.cell (p:=⟨_,_,none⟩) hgv).trans b0
   have A1:=fun p:Gr wr=>(p.h.cell (p:=⟨_,_,none⟩) hgu).trans a1
   have C1:=fun p:Gr wr=>(p.h.cell (p:=⟨_,_,none⟩) hgv).trans b1
   clear a0 b0 a1 b1
   go_wp2_with fail
   have hne2:Nonempty (Gr wr):=⟨⟨wr,Below.refl _ _⟩⟩
   refine wp_region_gr (by kernel_rfl) (by kernel_rfl) ?_
   repeat (go_big_quiet_step (first | (go_at_call 71;refine Calls.gr_of (v:=.bool true) fun hpw=>?_;exact eqFl_same x _)))
   refine wpQuiet_nil ?_
   intro _ hw'
   obtain ⟨pw,rfl⟩:=hw'
   have HB4:=hid (HBW.out.trans (pw.h.mono HBW.out.size))
   clear A0 C0 A1 C1
   go_wp2
   go_roundw
   case rel=>exact ⟨j+1,by omega,by go_num,HB4.out⟩
   case measure=>simp [intOf];omega
  ·obtain rfl:j=l.length:=by omega
   go_wp2
   go_ret
   exact ⟨rfl,HBW.out⟩
set_option maxHeartbeats 2000000 in
theorem szFl_any (x:Fl) (l:Int) (w:World) (hl:0≤l) (hl2:l≤1048576) (hx:OkFl x) :
  Calls Tryz.prog 51 #[.agg #[.string x.name,.string x.text],.int .i64 l] w (SzEnd l (wFl x) w):=by
 have HX:=hid hx
 obtain ⟨hx0,hx1⟩:=hx
 have HB0:=hid (B1.start w (.cells #[.string x.name,.string x.text] 80))
 have hs_name:=small hx0
 have hs_text:=small hx1
 by_cases c0:l - (x.name.size:Int) < 0
 ·go_enter Tryz.func51,Tryz.ntmps51
  go_wp2
  go_ret
  exact ⟨⟨_,rfl,by omega,by omega,fun h=>by omega⟩,HB0.out.lo⟩
 ·by_cases c1:l - (x.name.size:Int) - (x.text.size:Int) < 0
  ·go_enter Tryz.func51,Tryz.ntmps51
   go_wp2
   go_ret
   exact ⟨⟨_,rfl,by omega,by omega,fun h=>by omega⟩,HB0.out.lo⟩
  ·go_enter Tryz.func51,Tryz.ntmps51
   go_wp2
   go_ret
   refine ⟨⟨_,rfl,by omega,by omega,fun h=>?_⟩,HB0.out.lo⟩
   simp only [wFl]
   omega
set_option maxHeartbeats 2000000 in
theorem szSFl_any (l:List Fl) {v:Value} (m:Int) (w:World) (hl:0≤m) (hl2:m≤1048576) (hx:OkFlS l) (k0:SFlA w v l) :
  Calls Tryz.prog 19 #[v,.int .i64 m] w (SzEnd m (wSFl l l.length) w):=by
 have HX:=hid hx.2
 have hN:=small hx.1
 have HK:=hid k0
 obtain ⟨ad,cap,rfl⟩:=k0.sl
 clear hx k0
 by_cases h1:m - (l.length:Int) < 0
 ·go_enter Tryz.func19,Tryz.ntmps19
  go_wp2
  go_ret
  exact ⟨⟨_,rfl,by omega,by omega,fun h=>by omega⟩,Below.refl _ _⟩
 ·go_enter Tryz.func19,Tryz.ntmps19
  go_wp2
  go_loopw [1,5] (fun q i wr=>∃ (j:Nat) (r:Int),j≤l.length∧i=.int .i64 j∧q=.int .i64 r∧0≤r∧r≤m∧(Hid (r+(l.length:Int)+(wSFl l j:Int)=m+(j:Int)))∧Below w.heap.size w wr) (fun _ i _=>l.length - (intOf i).toNat)
  case atStart=>exact ⟨0,_,Nat.zero_le _,rfl,rfl,by omega,by omega,(by show _=_;simp [wSFl]),Below.refl _ _⟩
  case round =>
   obtain ⟨j,r,hj,rfl,rfl,hr0,hr1,HS,hbw⟩:=hrel
   have HBW:=hid hbw
   clear hbw
   by_cases hlt:j < l.length
   ·obtain ⟨a,c,e9,hal,⟨c0,c1⟩⟩:=(HK.out.next HBW.out).at hlt
    injection e9 with ea en ec
    clear en
    subst ea ec
    obtain ⟨x,hx⟩:∃ x,l.getD j fl0=x:=⟨_,rfl⟩
    have HXE:=hid hx
    have HOK:=hid (HX.out j hlt)
    rw [hx] at HOK c0 c1
    clear hx
    go_wp2_with fail
    refine (szFl_any x _ _ (by omega) (by omega) HOK.out).mono ?_
    rintro e w1 ⟨⟨r2,rfl,hr3,hr4,hr5⟩,hb1⟩
    have HB1:=hid (HBW.out.trans (hb1.mono HBW.out.size))
    have HR5:=hid hr5
    clear hb1 hr5 c0 c1
    by_cases hs:r2 < 0
    ·go_wp2
     go_ret
     exact ⟨⟨-1,rfl,by omega,by omega,fun h=>by omega⟩,HB1.out⟩
    ·have HS2:Hid (r2+(l.length:Int)+(wSFl l (j+1):Int)=m+((j+1:Nat):Int)):=by
      show _=_
      have:=HS.out
      have:=HR5.out (by omega)
      simp only [wSFl,HXE.out]
      omega
     go_wp2
     go_roundw
     case rel=>exact ⟨j+1,r2,by omega,by go_num,rfl,by omega,by omega,HS2,HB1.out⟩
     case measure=>simp [intOf];omega
   ·obtain rfl:j=l.length:=by omega
    go_wp2
    go_ret
    exact ⟨⟨r,rfl,by omega,hr1,fun _=>by have:=HS.out;omega⟩,HBW.out⟩
set_option maxHeartbeats 4000000 in
theorem toFl_any (x:Fl) (w:World) :
  Calls Tryz.prog 59 #[.agg #[.string x.name,.string x.text]] w fun e w'=>e=.returned (.agg #[.string x.name,.string x.text])∧Below w.heap.size w w':=by
 go_enter Tryz.func59,Tryz.ntmps59
 go_wp2
 refine bodyPost_ret (v:=.agg #[.string x.name,.string x.text]) ?_ rfl ⟨rfl,?_⟩
 ·simp [results,Tryz.results59,go_sem]
 ·exact (below_two' _ _ _).alloc (by simp;omega) _
theorem info_Fl:(Tryz.prog.info? 55).map (fun i=>(i.zero,i.size,i.bytes))=some (some (.agg #[.string ⟨#[]⟩,.string ⟨#[]⟩]),2,32):=by kernel_rfl
set_option maxHeartbeats 4000000 in
theorem toSFl_any (l:List Fl) {v:Value} (w:World) (hx:LoFlS l) (k0:SFlA w v l) :
  Calls Tryz.prog 31 #[v] w fun e w'=>∃ u,e=.returned u∧SFlR w.heap.size w' u l∧Below w.heap.size w w':=by
 have HK:=hid k0
 have HX:=hid hx
 have hN:l.length≤1048576:=hx.1
 obtain ⟨ad,cap,rfl⟩:=k0.sl
 clear hx k0
 obtain ⟨i0,hi,hz0,hz1,hz2⟩:=info_parts info_Fl
 have HHI:=hid (And.intro hi (And.intro hz0 (And.intro hz1 hz2)))
 clear hi hz0 hz1
 go_enter Tryz.func31,Tryz.ntmps31
 go_wp2_with (at_make;refine wpList_make_full _ rfl _ _ 32 rfl w.heap.size 55 i0 (.agg #[.string ⟨#[]⟩,.string ⟨#[]⟩]) 2 Tryz.underlying32 HHI.out.1 HHI.out.2.1 HHI.out.2.2.1 _ _ _ _ l.length rfl rfl rfl rfl (by rw [hz2];omega) (by unfold maxLen;omega) (Nat.le_refl _) ?_;intro w1 o1 g1)
 have HF0:Hid (SFlF w.heap.size w1 l 0):=by
  obtain ⟨h1,⟨h2,_⟩ | ⟨g,c,cur,e,_,h4,_,_,h7,_⟩⟩:=o1
  ·cases h2
  ·cases e
   exact ⟨cur,h4,h7,fun i h=>absurd h (Nat.not_lt_zero _)⟩
 have HB0:=hid ((Below.refl w.heap.size w).grown g1 (Nat.le_refl _) (fun q e=>by cases e))
 clear o1 g1
 go_loopw [4] (fun i wr=>∃ j:Nat,j≤l.length∧i=.int .i64 j∧SFlF w.heap.size wr l j∧Below w.heap.size w wr) (fun i _=>l.length - (intOf i).toNat)
 case atStart=>exact ⟨0,Nat.zero_le _,rfl,HF0.out,HB0.out⟩
 case round =>
  obtain ⟨j,hj,rfl,hfi,hbw⟩:=hrel
  have HFI:=hid hfi
  have HBW:=hid hbw
  have hgl:=hfi.lt
  clear hfi hbw
  by_cases hlt:j < l.length
  ·obtain ⟨a,c,e9,hal,⟨c0,c1⟩⟩:=(HK.out.next HBW.out).at hlt
   injection e9 with ea en ec
   clear en
   subst ea ec
   have HLE:=hid (HX.out.2 j hlt)
   obtain ⟨x,hx⟩:∃ x,l.getD j fl0=x:=⟨_,rfl⟩
   have HXE:=hid hx
   rw [hx] at HLE c0 c1
   clear hx
   go_wp2_with fail
   refine (toFl_any x _).mono ?_
   rintro e w2 ⟨rfl,hb2⟩
   have HF2:=hid (HFI.out.keep fun i hi hl=>hb2.block i hl)
   have HFX:=hid (HF2.out.step hlt)
   rw [HXE.out] at HFX
   obtain ⟨⟨w_0,x0⟩,y0⟩:=HF2.out.room (i:=j * 2) (by omega)
   obtain ⟨⟨w_1,x1⟩,y1⟩:=HF2.out.room (i:=j * 2+1) (by omega)
   have HBX:=hid (HBW.out.trans (hb2.mono HBW.out.size))
   clear hb2 c0 c1
   go_wp2
   go_roundw
   case rel=>exact ⟨j+1,by omega,by go_num,HFX.out,(below_set (below_set HBX.out _ _ (Nat.le_refl _) _) _ _ (Nat.le_refl _) _)⟩
   case measure=>simp [intOf];omega
  ·obtain rfl:j=l.length:=by omega
   go_wp2
   go_ret
   exact ⟨_,rfl,⟨w.heap.size,rfl,Nat.le_refl _,HFI.out⟩,HBW.out⟩
end Go.Proofs.YtbkmglknbflkhaaGreatDoor.R
namespace Go.Proofs.YtbkmglknbflkhaaGreatDoor.C
open Go.RowKit
set_option maxRecDepth 20000
theorem bin_no {op a b:Int} (h:¬ a=b):binG op a b=0:=by simp [binG,h]
theorem bin_34 {op a b:Int} (h:op=3∨op=4):binG op a b=if (decide (¬ a=0) && decide (a=b))=true then 1 else 0:=by
 by_cases hab:a=b
 ·subst hab
  by_cases h0:a=0 <;> simp [binG,h,h0]
 ·rw [bin_no hab];simp [hab]
theorem bin_58 {op a b:Int} (ha:0≤a∧a≤10) (h:5≤op∧op≤8):binG op a b=if ((isI a || decide (a=2)) && decide (a=b))=true then 1 else 0:=by
 have h34:¬ (op=3∨op=4):=by omega
 by_cases hab:a=b
 ·subst hab
  obtain rfl | rfl | rfl | rfl | rfl | rfl | rfl | rfl | rfl | rfl | rfl:a=0∨a=1∨a=2∨a=3∨a=4∨a=5∨a=6∨a=7∨a=8∨a=9∨a=10:=by omega
  all_goals simp [binG,isI,h34,h]
 ·rw [bin_no hab];simp [hab]
theorem bin_9 {a b:Int} (ha:0≤a∧a≤10):binG 9 a b=if ((isI a || decide (a=2)) && decide (a=b))=true then a else 0:=by
 by_cases hab:a=b
 ·subst hab
  obtain rfl | rfl | rfl | rfl | rfl | rfl | rfl | rfl | rfl | rfl | rfl:a=0∨a=1∨a=2∨a=3∨a=4∨a=5∨a=6∨a=7∨a=8∨a=9∨a=10:=by omega
  all_goals simp [binG,isI]
 ·rw [bin_no hab];simp [hab]
theorem bin_r {op a b:Int} (ha:0≤a∧a≤10) (h:10≤op):binG op a b=if (isI a && decide (a=b))=true then a else 0:=by
 have h34:¬ (op=3∨op=4):=by omega
 have h58:¬ (5≤op∧op≤8):=by omega
 have h9:¬ op=9:=by omega
 by_cases hab:a=b
 ·subst hab
  obtain rfl | rfl | rfl | rfl | rfl | rfl | rfl | rfl | rfl | rfl | rfl:a=0∨a=1∨a=2∨a=3∨a=4∨a=5∨a=6∨a=7∨a=8∨a=9∨a=10:=by omega
  all_goals simp [binG,isI,h34,h58,h9]
 ·rw [bin_no hab];simp [hab]
set_option maxHeartbeats 4000000 in
theorem binGives_any (op a b:Int) (ha:0≤a∧a≤10) (hop:3≤op∧op≤18) (w:World):Calls Tryz.prog 191 #[.int .i64 op,.int .i64 a,.int .i64 b] w fun e w'=>e=.returned (.int .i64 (binG op a b))∧w'=w:=by
 have HA:=hid ha
 have HI:=hid (Q.millIsInteger_int a)
 have hia:isI a=(decide (3≤a) && decide (a≤10)):=rfl
 have H34:=hid (fun h=>bin_34 (op:=op) (a:=a) (b:=b) h)
 have H58:=hid (fun h=>bin_58 (op:=op) (b:=b) ha h)
 have H9:=hid (bin_9 (b:=b) ha)
 have HRR:=hid (fun h=>bin_r (op:=op) (b:=b) ha h)
 obtain ⟨I,hI⟩:∃ I,isI a=I:=⟨_,rfl⟩
 rw [← hia,hI] at HI
 rw [hI] at H58 H9 HRR
 have e1:(op == 1)=false:=by simp;omega
 have e2:(op == 2)=false:=by simp;omega
 have habt:(a != b)=!decide (a=b):=by by_cases h:a=b <;> simp [h]
 have h20:(a == 2)=decide (a=2):=rfl
 have h00:(a != 0)=decide (¬ a=0):=by by_cases h:a=0 <;> simp [h]
 obtain ⟨T,hT⟩:∃ T,decide (a=2)=T:=⟨_,rfl⟩
 obtain ⟨Z,hZ⟩:∃ Z,decide (¬ a=0)=Z:=⟨_,rfl⟩
 obtain ⟨B,hB⟩:∃ B,decide (a=b)=B:=⟨_,rfl⟩
 rw [hT] at h20 H58 H9
 rw [hZ] at h00 H34
 rw [hB] at habt H34 H58 H9 HRR
 clear hia hI hT hZ hB ha
 by_cases h34:op=3∨op=4
 ·have HV:=hid (H34.out h34)
  clear hop H34 H58 H9 HRR
  cases Z <;> cases B <;> cases I <;> rcases h34 with rfl | rfl
  all_goals go_enter Tryz.func191,Tryz.ntmps191
  all_goals go_wp2_with (go_at_call 146;refine (HI.out _).mono ?_;rintro e w' ⟨rfl,hw⟩;have hw2:=hw.symm;clear hw;subst hw2)
  all_goals go_ret
  all_goals exact ⟨by rw [HV.out];rfl,rfl⟩
 ·have e3:(op == 3)=false:=by simp;omega
  have e4:(op == 4)=false:=by simp;omega
  by_cases h58:5≤op∧op≤8
  ·have HV:=hid (H58.out h58)
   clear h34 H34 H58 H9 HRR
   obtain rfl | rfl | rfl | rfl:op=5∨op=6∨op=7∨op=8:=by omega
   all_goals cases T <;> cases B <;> cases I
   all_goals go_enter Tryz.func191,Tryz.ntmps191
   all_goals go_wp2_with (go_at_call 146;refine (HI.out _).mono ?_;rintro e w' ⟨rfl,hw⟩;have hw2:=hw.symm;clear hw;subst hw2)
   all_goals go_ret
   all_goals exact ⟨by rw [HV.out];rfl,rfl⟩
  ·have e5:(op == 5)=false:=by simp;omega
   have e6:(op == 6)=false:=by simp;omega
   have e7:(op == 7)=false:=by simp;omega
   have e8:(op == 8)=false:=by simp;omega
   by_cases h9:op=9
   ·subst h9
    have HV:=H9
    clear h34 h58 H34 H58 HRR
    cases T <;> cases B <;> cases I
    all_goals go_enter Tryz.func191,Tryz.ntmps191
    all_goals go_wp2_with (go_at_call 146;refine (HI.out _).mono ?_;rintro e w' ⟨rfl,hw⟩;have hw2:=hw.symm;clear hw;subst hw2)
    all_goals go_ret
    all_goals exact ⟨by rw [HV.out];rfl,rfl⟩
   ·have e9:(op == 9)=false:=by simp;omega
    have HV:=hid (HRR.out (by omega))
    clear h34 h58 h9 hop H34 H58 H9 HRR
    cases B <;> cases I
    all_goals go_enter Tryz.func191,Tryz.ntmps191
    all_goals go_wp2_with (go_at_call 146;refine (HI.out _).mono ?_;rintro e w' ⟨rfl,hw⟩;have hw2:=hw.symm;clear hw;subst hw2)
    all_goals go_ret
    all_goals exact ⟨by rw [HV.out];rfl,rfl⟩
def kRow (l:List Int) (i j:Nat):Value:=.int .i64 (if j < i then l.getD j 0 else 0)
structure KI (l:List Int) (w:World) (b j:Nat) (W:World):Prop where
 lo:Below w.heap.size w W
 it:W.heap[b]?=some (.stringIter (kt l) j)
 gt:w.heap.size < b
 row:W.rowIs w.heap.size 3 l.length (kRow l j)
theorem made1 (x:Value) (n i:Nat) (h:i < n):(madeCells #[x] n).toList[i]?=some x:=by
 unfold madeCells
 simp [h,Nat.mod_one]
theorem KI.more {l:List Int} {w:World} {b j:Nat} {W:World} (h:KI l w b j W) (_hj:j < l.length):KI l w b (j+1) ((W.iterAt b (kt l) (j+1)).setCell ⟨w.heap.size,j,none⟩ (.int .i64 (l.getD j 0))):=by
 have hgt:=h.gt
 have h1:=Lib.iterAt_heap W b (kt l) j (j+1) h.it
 have hr:(W.iterAt b (kt l) (j+1)).rowIs w.heap.size 3 l.length (kRow l j):=h.row.of_block (by simp only [World.iterAt];rw [Array.getElem?_setIfInBounds_ne (by omega)])
 refine ⟨set_lo (Lib.below_iterAt h.lo (by omega) (kt l) (j+1)) _ _ (Nat.le_refl _) _,by rw [set_other _ _ _ _ _ (by omega)];exact h1,hgt,(hr.set j _).congr fun q hq=>?_⟩
 unfold kRow
 by_cases e:q=j
 ·subst e;rw [if_pos rfl,if_pos (by omega)]
 ·rw [if_neg e]
  by_cases h9:q < j
  ·rw [if_pos h9,if_pos (by omega)]
  ·rw [if_neg h9,if_neg (by omega)]
theorem KI.fin {l:List Int} {w:World} {b:Nat} {W:World} (h:KI l w b l.length W) (h600:l.length≤600):IntRow W (.slice (some ⟨w.heap.size,0,none⟩) l.length l.length) l:=by
 obtain ⟨cur,e,hz,hc⟩:=h.row
 refine ⟨_,_,rfl,Nat.le_refl _,by unfold maxLen;omega,.inr ⟨_,cur,rfl,e,fun i hi=>?_⟩⟩
 rw [hc i hi]
 unfold kRow
 rw [if_pos hi]
set_option maxHeartbeats 4000000 in
theorem kindsOf_any {l:List Int} (hl:Ok10 l) (h600:l.length≤600) (w:World):Calls Tryz.prog 169 #[.string (kt l)] w fun e w'=>∃ v,e=.returned v∧IntRow w' v l∧Below w.heap.size w w':=by
 have HL:=hid hl
 have hsz:=kt_size l
 obtain ⟨i0,hi,hz0,hz1,hz2⟩:=int_parts
 have HHI:=hid (And.intro hi (And.intro hz0 (And.intro hz1 hz2)))
 have hb8:i0.bytes=8:=hz2
 clear hi hz0 hz1 hz2 hl
 go_enter Tryz.func169,Tryz.ntmps169
 go_upto_region 2 with (at_make;refine wpList_make_full _ rfl _ _ 119 rfl w.heap.size 3 i0 (.int .i64 0) 1 Tryz.underlying119 HHI.out.1 HHI.out.2.1 HHI.out.2.2.1 _ _ _ _ l.length rfl rfl (by first | rfl | (rw [hsz])) (by first | rfl | (rw [hsz])) (by rw [hb8];omega) (by unfold maxLen;omega) (Nat.le_refl _) ?_;intro W1 o1 g1)
 have hrow:W1.rowIs w.heap.size 3 l.length (kRow l 0):=by
  obtain ⟨_,⟨h2,_⟩ | ⟨k,c,cur,e,_,h4,_,_,h7,h8⟩⟩:=o1
  ·cases h2
  ·injection e with e1 _ e3
   injection e1 with e1
   injection e1 with e1
   subst e1 e3
   rw [Nat.mul_one] at h7 h8
   refine ⟨cur,h4,h7,fun i hi=>?_⟩
   have e2:(cur.toList.take l.length)[i]?=(madeCells (Value.int .i64 0).cells l.length).toList[i]?:=by rw [h8]
   rw [List.getElem?_take_of_lt hi] at e2
   rw [← Array.getElem?_toList,e2]
   have e5:(Value.int .i64 0).cells=#[Value.int .i64 0]:=rfl
   rw [e5,made1 _ _ _ hi]
   unfold kRow
   rw [if_neg (Nat.not_lt_zero _)]
 have HLO1:=hid ((Below.refl w.heap.size w).grown g1 (Nat.le_refl _) (fun q e=>by cases e))
 have HK0:Hid (KI l w W1.heap.size 0 (W1.iter (kt l) 0)):=hid ⟨HLO1.out.trans (((Below.refl W1.heap.size W1).alloc (Nat.le_refl _) _).mono HLO1.out.size),World.iter_heap _ _ _,hrow.lt,hrow.alloc _⟩
 clear o1 g1 hrow
 obtain ⟨b,hb⟩:∃ b,W1.heap.size=b:=⟨_,rfl⟩
 go_wp2_with fail
 rw [hb] at HK0
 obtain ⟨W2,hW2⟩:∃ W,W1.iter (kt l) 0=W:=⟨_,rfl⟩
 rw [hW2] at HK0 ⊢
 clear hW2 hb
 go_loopw [4] (fun _ wr=>∃ j:Nat,j≤l.length∧KI l w b j wr) (fun _ wr=>l.length - wr.iterPos b)
 case atStart=>exact ⟨0,Nat.zero_le _,HK0.out⟩
 case round =>
  obtain ⟨j,hj,hk⟩:=hrel
  have HK:=hid hk
  clear hk HK0
  by_cases hlt:j < l.length
  ·have hlt2:j < (kt l).size:=by omega
   have hyv:=kt_get HL.out hlt2
   have HR10:=hid (getD_range0 HL.out j)
   have h128:((kt l)[j]'hlt2).toNat < 128:=by have:=HR10.out;omega
   have hnext:∀ ty,(Instr.next (.pointer (some ⟨b,0,none⟩)) true ty).run Tryz.prog wr=_:=fun ty=>Lib.run_next_ascii_at wr b (kt l) j ty HK.out.it hlt2 h128
   have HMU:Hid (wr.iterPos b=j):=hid (by simp [World.iterPos,HK.out.it])
   have HM:=hid (HK.out.more hlt)
   have HM2:=hid HM.out.it
   have hlti:(j:Int) < (l.length:Int):=by omega
   have hlt3:(j:Int) < ((kt l).size:Int):=by omega
   have HRW:Hid ((wr.iterAt b (kt l) (j+1)).rowIs w.heap.size 3 l.length (kRow l j)):=hid (HK.out.row.of_block (by have:=HK.out.gt;simp only [World.iterAt];rw [Array.getElem?_setIfInBounds_ne (by omega)]))
   have kA:=HRW.out.cell hlt
   have kF:=HRW.out.frozen j
   obtain ⟨y,hy⟩:∃ y,l.getD j 0=y:=⟨_,rfl⟩
   rw [hy] at hyv HM
   unfold kRow at kA
   rw [if_neg (Nat.lt_irrefl j)] at kA
   have hwy:IntKind.i64.wrap y=y:=by have:=HR10.out;rw [hy] at this;rw [IntKind.wrap_i64];omega
   generalize hW3:wr.iterAt b (kt l) (j+1)=W3 at hnext kA kF HM
   clear hy h128 hW3 HRW
   go_wp2_with fail
   go_roundw
   case rel=>exact ⟨j+1,by omega,HM.out⟩
   case measure =>
    have e2:(W3.setCell ⟨w.heap.size,j,none⟩ (.int .i64 y)).iterPos b=j+1:=by simp [World.iterPos,HM.out.it]
    rw [HMU.out,e2]
    omega
  ·obtain rfl:j=l.length:=by omega
   have hnext:∀ ty,(Instr.next (.pointer (some ⟨b,0,none⟩)) true ty).run Tryz.prog wr=_:=fun ty=>Lib.run_next_end_at wr b (kt l) l.length ty HK.out.it (by omega)
   go_wp2_with fail
   go_ret
   exact ⟨_,rfl,HK.out.fin h600,HK.out.lo⟩
end Go.Proofs.YtbkmglknbflkhaaGreatDoor.C
