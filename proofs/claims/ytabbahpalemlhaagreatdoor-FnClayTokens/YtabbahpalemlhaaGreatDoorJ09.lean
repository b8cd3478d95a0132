import Derived.Test.YtabbahpalemlhaaGreatDoorJ07
namespace Go.Proofs.YtabbahpalemlhaaGreatDoor
open Go.RowKit
set_option maxRecDepth 20000
set_option maxHeartbeats 2000000 in
theorem leaf0 (R G B:Nat) (w:World) (ns:List (ByteArray × Int)) (fs:List Fn) (c:Nat) (sz:Int) (p:Nat) (h:GenAt R G B w ns fs c sz p) (hp:p≤1000000) (hn:ns.length≤1000000) :
  Calls Tryz.prog 92 #[.pointer (some ⟨G,0,none⟩),.int .i64 0] w fun e w'=>LeafEnd R G B 3 20 w ns fs c sz p e w':=by
 have HG:=hid h
 clear h
 go_enter Tryz.func92,Tryz.ntmps92
 go_wp2_with fail
 refine (named_any R G B 0 w ns fs c sz p HG.out hp hn).mono ?_
 rintro e w1 ⟨ha,hg1,hk1⟩
 have HG1:=hid hg1
 have HK1:=hid hk1
 have k1:=hg1.g0
 clear hg1 hk1
 rcases ha with ⟨v,l,rfl,hnd,hok⟩ | ⟨g0,cc0,rfl⟩
 ·have HND:=hid hnd
  have HOK:=hid hok
  obtain ⟨g2,n2,c2,rfl⟩:=hnd.sl
  clear hnd hok
  go_wp2_with fail
  refine (pick_any R (p+1) 3 _ (by omega) (by omega) HG1.out.rd).mono ?_
  rintro e w2 ⟨⟨x,rfl,hx⟩,hr2,hs2⟩
  obtain ⟨hg2,hk2⟩:=HG1.out.picked hr2 hs2
  have HG2:=hid hg2
  have HK2:=hid (HK1.out.trans hk2)
  have HN2:=hid (HND.out.gk hk2)
  have k2:=hg2.g0
  clear hg2 hk2 hr2 hs2
  by_cases hx0:0 < x
  ·have hx1:(0:Int) < x:=by omega
   clear hx hx0
   go_wp2
   go_ret
   exact ⟨⟨_,l,rfl,HN2.out,HOK.out.mono (by omega)⟩,⟨p+1+1,by omega,by omega,HG2.out⟩,HK2.out⟩
  ·obtain rfl:x=0:=by omega
   clear hx hx0
   have HGA:=hid (HG2.out.next ((Below.refl w2.heap.size w2).alloc (Nat.le_refl _) (.cells #[.int .i64 0,.int .i64 1,.int .i64 2,.int .i64 3,.int .i64 7,.int .i64 200,.int .i64 9223372036854775807] 2)))
   have kA:=HGA.out.g0
   go_wp2_with fail
   refine (pick_any R (p+1+1) 7 _ (by omega) (by omega) HGA.out.rd).mono ?_
   rintro e w5 ⟨⟨x5,rfl,hx5⟩,hr5,hs5⟩
   obtain ⟨hg5,hk5⟩:=HGA.out.picked hr5 hs5
   have HG5:=hid hg5
   have HK5:=hid (HK2.out.trans ((Gk.of_below ((Below.refl w2.heap.size w2).alloc (Nat.le_refl _) _) HG2.out.bw).trans hk5))
   have hx7:x5 < 7:=by omega
   have hRl:=HG2.out.rd.lt
   obtain ⟨y,hy⟩:∃ y:Int,w5.cell? ⟨w2.heap.size,x5,none⟩=some (.int .i64 y):=by
    have e1:=hs5.cell (p:=⟨w2.heap.size,x5,none⟩) (by simp) (by show ¬ w2.heap.size=R;omega)
    rw [e1,cell_new_row]
    have h7:x5=0∨x5=1∨x5=2∨x5=3∨x5=4∨x5=5∨x5=6:=by omega
    rcases h7 with rfl | rfl | rfl | rfl | rfl | rfl | rfl <;> exact ⟨_,rfl⟩
   have hx7i:(x5:Int) < 7:=by omega
   clear hg5 hk5 hr5 hs5 hx5
   go_wp2_with fail
   refine (intNode_any y _).mono ?_
   rintro e w6 ⟨v6,rfl,h1,h2⟩
   have H1:=hid h1
   have H2:=hid h2
   obtain ⟨g6,n6,c6,rfl⟩:=h1.sl
   clear h1 h2
   go_wp2
   go_ret
   exact ⟨⟨_,_,rfl,H1.out,(NdOk.one (by show (⟨#[]⟩:ByteArray).size≤1000;decide)).mono (by omega)⟩,⟨p+1+1+1,by omega,by omega,HG5.out.next H2.out⟩,HK5.out.trans (Gk.of_below H2.out HG5.out.bw)⟩
 ·have HGA:=hid (HG1.out.next ((Below.refl w1.heap.size w1).alloc (Nat.le_refl _) (.cells #[.int .i64 0,.int .i64 1,.int .i64 2,.int .i64 3,.int .i64 7,.int .i64 200,.int .i64 9223372036854775807] 2)))
  have kA:=HGA.out.g0
  go_wp2_with fail
  refine (pick_any R (p+1) 7 _ (by omega) (by omega) HGA.out.rd).mono ?_
  rintro e w5 ⟨⟨x5,rfl,hx5⟩,hr5,hs5⟩
  obtain ⟨hg5,hk5⟩:=HGA.out.picked hr5 hs5
  have HG5:=hid hg5
  have HK5:=hid (HK1.out.trans ((Gk.of_below ((Below.refl w1.heap.size w1).alloc (Nat.le_refl _) _) HG1.out.bw).trans hk5))
  have hx7:x5 < 7:=by omega
  have hRl:=HG1.out.rd.lt
  obtain ⟨y,hy⟩:∃ y:Int,w5.cell? ⟨w1.heap.size,x5,none⟩=some (.int .i64 y):=by
   have e1:=hs5.cell (p:=⟨w1.heap.size,x5,none⟩) (by simp) (by show ¬ w1.heap.size=R;omega)
   rw [e1,cell_new_row]
   have h7:x5=0∨x5=1∨x5=2∨x5=3∨x5=4∨x5=5∨x5=6:=by omega
   rcases h7 with rfl | rfl | rfl | rfl | rfl | rfl | rfl <;> exact ⟨_,rfl⟩
  have hx7i:(x5:Int) < 7:=by omega
  clear hg5 hk5 hr5 hs5 hx5
  go_wp2_with fail
  refine (intNode_any y _).mono ?_
  rintro e w6 ⟨v6,rfl,h1,h2⟩
  have H1:=hid h1
  have H2:=hid h2
  obtain ⟨g6,n6,c6,rfl⟩:=h1.sl
  clear h1 h2
  go_wp2
  go_ret
  exact ⟨⟨_,_,rfl,H1.out,(NdOk.one (by show (⟨#[]⟩:ByteArray).size≤1000;decide)).mono (by omega)⟩,⟨p+1+1,by omega,by omega,HG5.out.next H2.out⟩,HK5.out.trans (Gk.of_below H2.out HG5.out.bw)⟩
set_option maxHeartbeats 2000000 in
theorem leaf4 (R G B:Nat) (w:World) (ns:List (ByteArray × Int)) (fs:List Fn) (c:Nat) (sz:Int) (p:Nat) (h:GenAt R G B w ns fs c sz p) (hp:p≤1000000) (hn:ns.length≤1000000) :
  Calls Tryz.prog 92 #[.pointer (some ⟨G,0,none⟩),.int .i64 4] w fun e w'=>LeafEnd R G B 3 20 w ns fs c sz p e w':=by
 have HG:=hid h
 clear h
 go_enter Tryz.func92,Tryz.ntmps92
 go_wp2_with fail
 refine (named_any R G B 4 w ns fs c sz p HG.out hp hn).mono ?_
 rintro e w1 ⟨ha,hg1,hk1⟩
 have HG1:=hid hg1
 have HK1:=hid hk1
 have k1:=hg1.g0
 clear hg1 hk1
 rcases ha with ⟨v,l,rfl,hnd,hok⟩ | ⟨g0,cc0,rfl⟩
 ·have HND:=hid hnd
  have HOK:=hid hok
  obtain ⟨g2,n2,c2,rfl⟩:=hnd.sl
  clear hnd hok
  go_wp2_with fail
  refine (pick_any R (p+1) 3 _ (by omega) (by omega) HG1.out.rd).mono ?_
  rintro e w2 ⟨⟨x,rfl,hx⟩,hr2,hs2⟩
  obtain ⟨hg2,hk2⟩:=HG1.out.picked hr2 hs2
  have HG2:=hid hg2
  have HK2:=hid (HK1.out.trans hk2)
  have HN2:=hid (HND.out.gk hk2)
  have k2:=hg2.g0
  clear hg2 hk2 hr2 hs2
  by_cases hx0:0 < x
  ·have hx1:(0:Int) < x:=by omega
   clear hx hx0
   go_wp2
   go_ret
   exact ⟨⟨_,l,rfl,HN2.out,HOK.out.mono (by omega)⟩,⟨p+1+1,by omega,by omega,HG2.out⟩,HK2.out⟩
  ·obtain rfl:x=0:=by omega
   clear hx hx0
   go_wp2_with fail
   refine (intNode_any 1 _).mono ?_
   rintro e w5 ⟨v5,rfl,h1,h2⟩
   have H1:=hid h1
   have H2:=hid h2
   obtain ⟨g5,n5,c5,rfl⟩:=h1.sl
   clear h1 h2
   go_wp2_with fail
   refine (over1 ⟨17,0,0,⟨#[97]⟩,0⟩ _ _ w5 H1.out (by simp)).mono ?_
   rintro e w6 ⟨v6,rfl,h1,h2⟩
   have H3:=hid h1
   have H4:=hid (H2.out.trans (h2.mono H2.out.size))
   obtain ⟨g6,n6,c6,rfl⟩:=h1.sl
   clear h1 h2
   go_wp2_with fail
   refine (over1 ⟨9,0,0,⟨#[]⟩,0⟩ _ _ w6 H3.out (by simp)).mono ?_
   rintro e w7 ⟨v7,rfl,h1,h2⟩
   have H5:=hid h1
   have H6:=hid (H4.out.trans (h2.mono H4.out.size))
   obtain ⟨g7,n7,c7,rfl⟩:=h1.sl
   clear h1 h2
   go_wp2
   go_ret
   exact ⟨⟨_,_,rfl,H5.out,(((NdOk.one (by decide)).over (by decide)).over (by decide)).mono (by omega)⟩,⟨p+1+1,by omega,by omega,HG2.out.next H6.out⟩,HK2.out.trans (Gk.of_below H6.out HG2.out.bw)⟩
 ·go_wp2_with fail
  refine (intNode_any 1 _).mono ?_
  rintro e w5 ⟨v5,rfl,h1,h2⟩
  have H1:=hid h1
  have H2:=hid h2
  obtain ⟨g5,n5,c5,rfl⟩:=h1.sl
  clear h1 h2
  go_wp2_with fail
  refine (over1 ⟨17,0,0,⟨#[97]⟩,0⟩ _ _ w5 H1.out (by simp)).mono ?_
  rintro e w6 ⟨v6,rfl,h1,h2⟩
  have H3:=hid h1
  have H4:=hid (H2.out.trans (h2.mono H2.out.size))
  obtain ⟨g6,n6,c6,rfl⟩:=h1.sl
  clear h1 h2
  go_wp2_with fail
  refine (over1 ⟨9,0,0,⟨#[]⟩,0⟩ _ _ w6 H3.out (by simp)).mono ?_
  rintro e w7 ⟨v7,rfl,h1,h2⟩
  have H5:=hid h1
  have H6:=hid (H4.out.trans (h2.mono H4.out.size))
  obtain ⟨g7,n7,c7,rfl⟩:=h1.sl
  clear h1 h2
  go_wp2
  go_ret
  exact ⟨⟨_,_,rfl,H5.out,(((NdOk.one (by decide)).over (by decide)).over (by decide)).mono (by omega)⟩,⟨p+1,by omega,by omega,HG1.out.next H6.out⟩,HK1.out.trans (Gk.of_below H6.out HG1.out.bw)⟩
end Go.Proofs.YtabbahpalemlhaaGreatDoor
