import Derived.Test.YtabbahpalemlhaaGreatDoorJ07
namespace Go.Proofs.YtabbahpalemlhaaGreatDoor
open Go.RowKit
set_option maxRecDepth 20000
set_option maxHeartbeats 2000000 in
theorem leaf1 (R G B:Nat) (w:World) (ns:List (ByteArray × Int)) (fs:List Fn) (c:Nat) (sz:Int) (p:Nat) (h:GenAt R G B w ns fs c sz p) (hp:p≤1000000) (hn:ns.length≤1000000) :
  Calls Tryz.prog 92 #[.pointer (some ⟨G,0,none⟩),.int .i64 1] w fun e w'=>LeafEnd R G B 3 20 w ns fs c sz p e w':=by
 have HG:=hid h
 clear h
 go_enter Tryz.func92,Tryz.ntmps92
 go_wp2_with fail
 refine (named_any R G B 1 w ns fs c sz p HG.out hp hn).mono ?_
 rintro e w1 ⟨ha,hg1,hk1⟩
 have HG1:=hid hg1
 have HK1:=hid hk1
 have k1:=hg1.g0
 clear hg1 hk1
 rcases ha with ⟨v,l,rfl,hnd,hok⟩ | ⟨g0,cc0,rfl⟩
 ·have HND:=hid hnd
  have HOK:=hid hok
  obtain ⟨g2,n2,c2,rfl⟩:=hnd.sl
  clear hnd hok
  go_wp2_with fail
  refine (pick_any R (p+1) 3 _ (by omega) (by omega) HG1.out.rd).mono ?_
  rintro e w2 ⟨⟨x,rfl,hx⟩,hr2,hs2⟩
  obtain ⟨hg2,hk2⟩:=HG1.out.picked hr2 hs2
  have HG2:=hid hg2
  have HK2:=hid (HK1.out.trans hk2)
  have HN2:=hid (HND.out.gk hk2)
  have k2:=hg2.g0
  clear hg2 hk2 hr2 hs2
  by_cases hx0:0 < x
  ·have hx1:(0:Int) < x:=by omega
   clear hx hx0
   go_wp2
   go_ret
   exact ⟨⟨_,l,rfl,HN2.out,HOK.out.mono (by omega)⟩,⟨p+1+1,by omega,by omega,HG2.out⟩,HK2.out⟩
  ·obtain rfl:x=0:=by omega
   clear hx hx0
   go_wp2_with fail
   refine (l1DrawText_any R (p+1+1) _ (by omega) HG2.out.rd).mono ?_
   rintro e w5 ⟨⟨tx,rfl,htx⟩,p5,hp5,hp6,hr5,hs5⟩
   obtain ⟨hg5,hk5⟩:=HG2.out.picked hr5 hs5
   have HG5:=hid hg5
   have HK5:=hid (HK2.out.trans hk5)
   have HTX:=hid htx
   clear hg5 hk5 hr5 hs5 htx
   go_wp2_with fail
   refine (textNode_any tx _).mono ?_
   rintro e w6 ⟨v6,rfl,h1,h2⟩
   have H1:=hid h1
   have H2:=hid h2
   obtain ⟨g6,n6,c6,rfl⟩:=h1.sl
   clear h1 h2
   go_wp2
   go_ret
   exact ⟨⟨_,_,rfl,H1.out,(NdOk.one (by have:=HTX.out;show tx.size≤1000;omega)).mono (by omega)⟩,⟨p5,by omega,by omega,HG5.out.next H2.out⟩,HK5.out.trans (Gk.of_below H2.out HG5.out.bw)⟩
 ·go_wp2_with fail
  refine (l1DrawText_any R (p+1) _ (by omega) HG1.out.rd).mono ?_
  rintro e w5 ⟨⟨tx,rfl,htx⟩,p5,hp5,hp6,hr5,hs5⟩
  obtain ⟨hg5,hk5⟩:=HG1.out.picked hr5 hs5
  have HG5:=hid hg5
  have HK5:=hid (HK1.out.trans hk5)
  have HTX:=hid htx
  clear hg5 hk5 hr5 hs5 htx
  go_wp2_with fail
  refine (textNode_any tx _).mono ?_
  rintro e w6 ⟨v6,rfl,h1,h2⟩
  have H1:=hid h1
  have H2:=hid h2
  obtain ⟨g6,n6,c6,rfl⟩:=h1.sl
  clear h1 h2
  go_wp2
  go_ret
  exact ⟨⟨_,_,rfl,H1.out,(NdOk.one (by have:=HTX.out;show tx.size≤1000;omega)).mono (by omega)⟩,⟨p5,by omega,by omega,HG5.out.next H2.out⟩,HK5.out.trans (Gk.of_below H2.out HG5.out.bw)⟩
set_option maxHeartbeats 2000000 in
theorem leaf2 (R G B:Nat) (w:World) (ns:List (ByteArray × Int)) (fs:List Fn) (c:Nat) (sz:Int) (p:Nat) (h:GenAt R G B w ns fs c sz p) (hp:p≤1000000) (hn:ns.length≤1000000) :
  Calls Tryz.prog 92 #[.pointer (some ⟨G,0,none⟩),.int .i64 2] w fun e w'=>LeafEnd R G B 3 20 w ns fs c sz p e w':=by
 have HG:=hid h
 clear h
 go_enter Tryz.func92,Tryz.ntmps92
 go_wp2_with fail
 refine (named_any R G B 2 w ns fs c sz p HG.out hp hn).mono ?_
 rintro e w1 ⟨ha,hg1,hk1⟩
 have HG1:=hid hg1
 have HK1:=hid hk1
 have k1:=hg1.g0
 clear hg1 hk1
 rcases ha with ⟨v,l,rfl,hnd,hok⟩ | ⟨g0,cc0,rfl⟩
 ·have HND:=hid hnd
  have HOK:=hid hok
  obtain ⟨g2,n2,c2,rfl⟩:=hnd.sl
  clear hnd hok
  go_wp2_with fail
  refine (pick_any R (p+1) 3 _ (by omega) (by omega) HG1.out.rd).mono ?_
  rintro e w2 ⟨⟨x,rfl,hx⟩,hr2,hs2⟩
  obtain ⟨hg2,hk2⟩:=HG1.out.picked hr2 hs2
  have HG2:=hid hg2
  have HK2:=hid (HK1.out.trans hk2)
  have HN2:=hid (HND.out.gk hk2)
  have k2:=hg2.g0
  clear hg2 hk2 hr2 hs2
  by_cases hx0:0 < x
  ·have hx1:(0:Int) < x:=by omega
   clear hx hx0
   go_wp2
   go_ret
   exact ⟨⟨_,l,rfl,HN2.out,HOK.out.mono (by omega)⟩,⟨p+1+1,by omega,by omega,HG2.out⟩,HK2.out⟩
  ·obtain rfl:x=0:=by omega
   clear hx hx0
   go_wp2_with fail
   refine (pick_any R (p+1+1) 2 _ (by omega) (by omega) HG2.out.rd).mono ?_
   rintro e w5 ⟨⟨x5,rfl,hx5⟩,hr5,hs5⟩
   obtain ⟨hg5,hk5⟩:=HG2.out.picked hr5 hs5
   have HG5:=hid hg5
   have HK5:=hid (HK2.out.trans hk5)
   have H1:=hid (nd_one w5 ⟨2,0,(x5:Int),⟨#[]⟩,0⟩)
   have H2:Hid (∀ X,Below w5.heap.size w5 (w5.alloc X)):=fun X=>(Below.refl _ _).alloc (Nat.le_refl _) X
   clear hg5 hk5 hr5 hs5 hx5
   go_wp2
   go_ret
   exact ⟨⟨_,_,rfl,H1.out,(NdOk.one (by show (⟨#[]⟩:ByteArray).size≤1000;decide)).mono (by omega)⟩,⟨p+1+1+1,by omega,by omega,HG5.out.next (H2.out _)⟩,HK5.out.trans (Gk.of_below (H2.out _) HG5.out.bw)⟩
 ·go_wp2_with fail
  refine (pick_any R (p+1) 2 _ (by omega) (by omega) HG1.out.rd).mono ?_
  rintro e w5 ⟨⟨x5,rfl,hx5⟩,hr5,hs5⟩
  obtain ⟨hg5,hk5⟩:=HG1.out.picked hr5 hs5
  have HG5:=hid hg5
  have HK5:=hid (HK1.out.trans hk5)
  have H1:=hid (nd_one w5 ⟨2,0,(x5:Int),⟨#[]⟩,0⟩)
  have H2:Hid (∀ X,Below w5.heap.size w5 (w5.alloc X)):=fun X=>(Below.refl _ _).alloc (Nat.le_refl _) X
  clear hg5 hk5 hr5 hs5 hx5
  go_wp2
  go_ret
  exact ⟨⟨_,_,rfl,H1.out,(NdOk.one (by show (⟨#[]⟩:ByteArray).size≤1000;decide)).mono (by omega)⟩,⟨p+1+1,by omega,by omega,HG5.out.next (H2.out _)⟩,HK5.out.trans (Gk.of_below (H2.out _) HG5.out.bw)⟩
set_option maxHeartbeats 2000000 in
theorem leaf3 (R G B:Nat) (w:World) (ns:List (ByteArray × Int)) (fs:List Fn) (c:Nat) (sz:Int) (p:Nat) (h:GenAt R G B w ns fs c sz p) (hp:p≤1000000) (hn:ns.length≤1000000) :
  Calls Tryz.prog 92 #[.pointer (some ⟨G,0,none⟩),.int .i64 3] w fun e w'=>LeafEnd R G B 3 20 w ns fs c sz p e w':=by
 have HG:=hid h
 clear h
 go_enter Tryz.func92,Tryz.ntmps92
 go_wp2_with fail
 refine (named_any R G B 3 w ns fs c sz p HG.out hp hn).mono ?_
 rintro e w1 ⟨ha,hg1,hk1⟩
 have HG1:=hid hg1
 have HK1:=hid hk1
 have k1:=hg1.g0
 clear hg1 hk1
 rcases ha with ⟨v,l,rfl,hnd,hok⟩ | ⟨g0,cc0,rfl⟩
 ·have HND:=hid hnd
  have HOK:=hid hok
  obtain ⟨g2,n2,c2,rfl⟩:=hnd.sl
  clear hnd hok
  go_wp2_with fail
  refine (pick_any R (p+1) 3 _ (by omega) (by omega) HG1.out.rd).mono ?_
  rintro e w2 ⟨⟨x,rfl,hx⟩,hr2,hs2⟩
  obtain ⟨hg2,hk2⟩:=HG1.out.picked hr2 hs2
  have HG2:=hid hg2
  have HK2:=hid (HK1.out.trans hk2)
  have HN2:=hid (HND.out.gk hk2)
  have k2:=hg2.g0
  clear hg2 hk2 hr2 hs2
  by_cases hx0:0 < x
  ·have hx1:(0:Int) < x:=by omega
   clear hx hx0
   go_wp2
   go_ret
   exact ⟨⟨_,l,rfl,HN2.out,HOK.out.mono (by omega)⟩,⟨p+1+1,by omega,by omega,HG2.out⟩,HK2.out⟩
  ·obtain rfl:x=0:=by omega
   clear hx hx0
   go_wp2_with fail
   refine (textNode_any ⟨#[120]⟩ _).mono ?_
   rintro e w5 ⟨v5,rfl,h1,h2⟩
   have H1:=hid h1
   have H2:=hid h2
   obtain ⟨g5,n5,c5,rfl⟩:=h1.sl
   clear h1 h2
   go_wp2_with fail
   refine (textNode_any ⟨#[97,46,99]⟩ _).mono ?_
   rintro e w6 ⟨v6,rfl,h1,h2⟩
   have H3:=hid h1
   have H4:=hid h2
   have H1b:=hid (H1.out.next h2)
   obtain ⟨g6,n6,c6,rfl⟩:=h1.sl
   clear h1 h2
   go_wp2_with fail
   refine (over2 ⟨8,0,0,⟨#[]⟩,0⟩ _ _ _ _ w6 H1b.out H3.out (by simp)).mono ?_
   rintro e w7 ⟨v7,rfl,h1,h2⟩
   have H5:=hid h1
   have H6:=hid ((H2.out.trans (H4.out.mono H2.out.size)).trans (h2.mono (by have:=H2.out.size;have:=H4.out.size;omega)))
   obtain ⟨g7,n7,c7,rfl⟩:=h1.sl
   clear h1 h2
   go_wp2
   go_ret
   exact ⟨⟨_,_,rfl,H5.out,(((NdOk.one (by decide)).app (NdOk.one (by decide))).over (by decide)).mono (by omega)⟩,⟨p+1+1,by omega,by omega,HG2.out.next H6.out⟩,HK2.out.trans (Gk.of_below H6.out HG2.out.bw)⟩
 ·go_wp2_with fail
  refine (textNode_any ⟨#[120]⟩ _).mono ?_
  rintro e w5 ⟨v5,rfl,h1,h2⟩
  have H1:=hid h1
  have H2:=hid h2
  obtain ⟨g5,n5,c5,rfl⟩:=h1.sl
  clear h1 h2
  go_wp2_with fail
  refine (textNode_any ⟨#[97,46,99]⟩ _).mono ?_
  rintro e w6 ⟨v6,rfl,h1,h2⟩
  have H3:=hid h1
  have H4:=hid h2
  have H1b:=hid (H1.out.next h2)
  obtain ⟨g6,n6,c6,rfl⟩:=h1.sl
  clear h1 h2
  go_wp2_with fail
  refine (over2 ⟨8,0,0,⟨#[]⟩,0⟩ _ _ _ _ w6 H1b.out H3.out (by simp)).mono ?_
  rintro e w7 ⟨v7,rfl,h1,h2⟩
  have H5:=hid h1
  have H6:=hid ((H2.out.trans (H4.out.mono H2.out.size)).trans (h2.mono (by have:=H2.out.size;have:=H4.out.size;omega)))
  obtain ⟨g7,n7,c7,rfl⟩:=h1.sl
  clear h1 h2
  go_wp2
  go_ret
  exact ⟨⟨_,_,rfl,H5.out,(((NdOk.one (by decide)).app (NdOk.one (by decide))).over (by decide)).mono (by omega)⟩,⟨p+1,by omega,by omega,HG1.out.next H6.out⟩,HK1.out.trans (Gk.of_below H6.out HG1.out.bw)⟩
set_option maxHeartbeats 2000000 in
theorem leaf5 (R G B:Nat) (kind:Int) (w:World) (ns:List (ByteArray × Int)) (fs:List Fn) (c:Nat) (sz:Int) (p:Nat) (h:GenAt R G B w ns fs c sz p) (hp:p≤1000000) (hn:ns.length≤1000000) (hk:kind < 0∨4 < kind) :
  Calls Tryz.prog 92 #[.pointer (some ⟨G,0,none⟩),.int .i64 kind] w fun e w'=>LeafEnd R G B 3 20 w ns fs c sz p e w':=by
 have HG:=hid h
 clear h
 have q0:(kind == 0)=false:=by simp;omega
 have q1:(kind == 1)=false:=by simp;omega
 have q2:(kind == 2)=false:=by simp;omega
 have q3:(kind == 3)=false:=by simp;omega
 have q4:(kind == 4)=false:=by simp;omega
 go_enter Tryz.func92,Tryz.ntmps92
 go_wp2_with fail
 refine (named_any R G B kind w ns fs c sz p HG.out hp hn).mono ?_
 rintro e w1 ⟨ha,hg1,hk1⟩
 have HG1:=hid hg1
 have HK1:=hid hk1
 have k1:=hg1.g0
 clear hg1 hk1
 rcases ha with ⟨v,l,rfl,hnd,hok⟩ | ⟨g0,cc0,rfl⟩
 ·have HND:=hid hnd
  have HOK:=hid hok
  obtain ⟨g2,n2,c2,rfl⟩:=hnd.sl
  clear hnd hok
  go_wp2_with fail
  refine (pick_any R (p+1) 3 _ (by omega) (by omega) HG1.out.rd).mono ?_
  rintro e w2 ⟨⟨x,rfl,hx⟩,hr2,hs2⟩
  obtain ⟨hg2,hk2⟩:=HG1.out.picked hr2 hs2
  have HG2:=hid hg2
  have HK2:=hid (HK1.out.trans hk2)
  have HN2:=hid (HND.out.gk hk2)
  have k2:=hg2.g0
  clear hg2 hk2 hr2 hs2
  by_cases hx0:0 < x
  ·have hx1:(0:Int) < x:=by omega
   clear hx hx0
   go_wp2
   go_ret
   exact ⟨⟨_,l,rfl,HN2.out,HOK.out.mono (by omega)⟩,⟨p+1+1,by omega,by omega,HG2.out⟩,HK2.out⟩
  ·obtain rfl:x=0:=by omega
   clear hx hx0
   have H1:=hid (nd_one w2 ⟨1,0,0,⟨#[]⟩,0⟩)
   have H2:Hid (∀ X,Below w2.heap.size w2 (w2.alloc X)):=fun X=>(Below.refl _ _).alloc (Nat.le_refl _) X
   go_wp2
   go_ret
   exact ⟨⟨_,_,rfl,H1.out,(NdOk.one (by decide)).mono (by omega)⟩,⟨p+1+1,by omega,by omega,HG2.out.next (H2.out _)⟩,HK2.out.trans (Gk.of_below (H2.out _) HG2.out.bw)⟩
 ·have H1:=hid (nd_one w1 ⟨1,0,0,⟨#[]⟩,0⟩)
  have H2:Hid (∀ X,Below w1.heap.size w1 (w1.alloc X)):=fun X=>(Below.refl _ _).alloc (Nat.le_refl _) X
  go_wp2
  go_ret
  exact ⟨⟨_,_,rfl,H1.out,(NdOk.one (by decide)).mono (by omega)⟩,⟨p+1,by omega,by omega,HG1.out.next (H2.out _)⟩,HK1.out.trans (Gk.of_below (H2.out _) HG1.out.bw)⟩
end Go.Proofs.YtabbahpalemlhaaGreatDoor
