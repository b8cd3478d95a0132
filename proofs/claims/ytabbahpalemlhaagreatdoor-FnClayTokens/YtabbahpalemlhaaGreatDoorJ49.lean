import Derived.Test.YtabbahpalemlhaaGreatDoorJ48
import Derived.Test.YtabbahpalemlhaaGreatDoorJ45
import Derived.Test.YtabbahpalemlhaaGreatDoorJ47
namespace Go.Proofs.YtabbahpalemlhaaGreatDoor.Tk
open Go.RowKit
set_option maxRecDepth 20000
structure DS (R:Nat) (w:World) (p:Nat) (W:World):Prop where
 rd:Rd R W p
 lo:Below R w W
theorem DS.next {R p:Nat} {w W V:World} (h:DS R w p W) (hb:Below W.heap.size W V):DS R w p V:=⟨h.rd.next hb,h.lo.trans (hb.mono (Nat.le_of_lt h.rd.lt))⟩
theorem DS.sv {R p q:Nat} {w W V:World} (h:DS R w p W) (hr:Rd R V q) (hs:Sv (fun k=>k=R) W V):DS R w q V:=⟨hr,h.lo.trans (hs.below (Nat.le_of_lt h.rd.lt) (fun k e=>by subst e;exact Nat.le_refl _))⟩
theorem DS.br {R p q:Nat} {w W V:World} (h:DS R w p W) (hr:Rd R V q) (hb:BR R W V):DS R w q V:=⟨hr,h.lo.trans hb.lo⟩
def TxDr (w:World) (e:Ending) (w':World):Prop:=(∃ y:ByteArray,e=.returned (.string y)∧y.size≤300000000)∧Below w.heap.size w w'
theorem CodeA.next {w W:World} {ad:Option Addr} {n:Nat} (h:CodeA w ad n) (hb:Below w.heap.size w W):CodeA W ad n:=by
 rcases h with h | ⟨a,e,h1,h2⟩
 ·exact .inl h
 ·refine .inr ⟨a,e,Nat.lt_of_lt_of_le h1 hb.size,fun i hi=>?_⟩
  obtain ⟨x,hx⟩:=h2 i hi
  exact ⟨x,(hb.cell (p:=a.add i) (by rw [add_block];exact h1)).trans hx⟩
set_option maxHeartbeats 8000000 in
theorem drawParse_any (ad:Option Addr) (n cap:Nat) (w:World) (hn:n≤1048576) (hc:n≤cap) (hcm:cap≤9223372036854775807) (h:CodeA w ad n) (hnil:ad=none→n=0∧cap=0) :
  Calls Tryz.prog 11 #[.slice ad n cap] w (TxDr w):=by
 have HC:=hid h
 have HNIL:=hid hnil
 clear h hnil
 go_enter Tryz.func11,Tryz.ntmps11
 go_wp2_with fail
 refine (l1Open_any ad n cap _ hn hc hcm HC.out HNIL.out).mono ?_
 rintro e w1 ⟨rfl,r1,hb1⟩
 have HD1:Hid (DS w.heap.size w 0 w1):=⟨r1,hb1⟩
 clear r1 hb1 HC HNIL
 obtain ⟨R,hR⟩:∃ g,w.heap.size=g:=⟨_,rfl⟩
 have HFIN:Hid (∀ p V (y:ByteArray),DS R w p V→y.size≤300000000→TxDr w (.returned (.string y)) V):=fun p V y hd hy=>⟨⟨y,rfl,hy⟩,by rw [hR];exact hd.lo⟩
 rw [hR] at HD1 ⊢
 clear hR
 go_wp2_with fail
 refine (pick_any R 0 24 _ (by omega) (by omega) HD1.out.rd).mono ?_
 rintro e w2 ⟨⟨k,rfl,hk⟩,hr2,hs2⟩
 have HD2:=hid (HD1.out.sv hr2 hs2)
 clear hr2 hs2 HD1
 by_cases h0:k=0
 ·subst h0
  go_wp2_with fail
  refine (pick_any R (0+1) 22 _ (by omega) (by omega) (HD2.out.next ((Below.refl _ _).alloc (Nat.le_refl _) _)).rd).mono ?_
  rintro e w3 ⟨⟨y,rfl,hy⟩,hr3,hs3⟩
  have hy9:y < 22:=by omega
  have hz9:(y:Int) < 22:=by omega
  obtain ⟨t3,c3,hc3⟩:=lit_str (K:=100) hs3 HD2.out.rd.lt y (by
   have h7:y=0∨y=1∨y=2∨y=3∨y=4∨y=5∨y=6∨y=7∨y=8∨y=9∨y=10∨y=11∨y=12∨y=13∨y=14∨y=15∨y=16∨y=17∨y=18∨y=19∨y=20∨y=21:=by omega
   rcases h7 with rfl | rfl | rfl | rfl | rfl | rfl | rfl | rfl | rfl | rfl | rfl | rfl | rfl | rfl | rfl | rfl | rfl | rfl | rfl | rfl | rfl | rfl <;> exact ⟨_,rfl,by decide⟩)
  have HD3:=hid ((HD2.out.next ((Below.refl _ _).alloc (Nat.le_refl _) _)).sv hr3 hs3)
  clear hr3 hs3 hy
  go_wp2
  go_ret
  exact HFIN.out _ _ _ HD3.out (by omega)
 ·have h0f:((k:Int) == 0)=false:=by simp;omega
  by_cases h1:k=1
  ·subst h1
   have HM:=hid (fun W=>many_q ⟨#[40]⟩ 3994 W (by show 1 * 3994≤_;omega) (by omega) (by decide))
   go_wp2_with fail
   refine (HM.out _).mono ?_
   rintro e w3 ⟨⟨t3,rfl,ht3⟩,hw3⟩
   have e3:=hw3.symm
   subst e3
   go_wp2
   go_ret
   exact HFIN.out _ _ _ HD2.out (by rw [ByteArray.size_append,ByteArray.size_append];show 8+t3.size+1≤_;omega)
  ·have h1f:((k:Int) == 1)=false:=by simp;omega
   go_wp2_with fail
   refine (any_at R (0+1) w2 HD2.out.rd (by omega)).mono ?_
   rintro e w3 ⟨v3,rfl,ht3,⟨p3,hp3,hr3⟩,br3⟩
   have HD3:=hid (HD2.out.br hr3 br3)
   have HT3:=hid ht3
   clear ht3 hr3 br3 HD2
   go_wp2_with fail
   refine (print_tr w3 HT3.out (by omega)).mono ?_
   rintro e w4 ⟨⟨s4,rfl,hs4⟩,hb4⟩
   have HD4:=hid (HD3.out.next hb4)
   clear hb4 HD3 HT3
   go_wp2_with fail
   refine (pick_any R p3 3 _ (by omega) (by omega) HD4.out.rd).mono ?_
   rintro e w5 ⟨⟨y5,rfl,hy5⟩,hr5,hs5⟩
   have HD5:=hid (HD4.out.sv hr5 hs5)
   clear hr5 hs5 HD4 hy5
   go_upto_if 31 with fail
   go_cut [6] (fun v wx=>∃ (s6:ByteArray) (p6:Nat),v=.string s6∧s6.size≤100000000∧p6≤100000∧DS R w p6 wx)
   case first =>
    by_cases h50:y5=0
    ·subst h50
     go_wp2_with fail
     refine (loose_at R (p3+1) s4 _ (by omega) hs4 HD5.out.rd).mono ?_
     rintro e w6 ⟨⟨s6,rfl,hs6⟩,p6,hp6,hp7,hr6,hs7⟩
     have HD6:=hid (HD5.out.sv hr6 hs7)
     clear hr6 hs7
     go_wp2_with fail
     go_meet
     case rel=>exact ⟨_,_,rfl,hs6,by omega,HD6.out⟩
    ·have h5f:((y5:Int) == 0)=false:=by simpa using h50
     go_wp2_with fail
     go_meet
     case rel=>exact ⟨_,_,rfl,by omega,by omega,HD5.out⟩
   case rest =>
    obtain ⟨s6,p6,rfl,hs6,hp6,d6⟩:=hcut
    have HD6:=hid d6
    clear d6 HD5
    by_cases h2:k=2∧s6.size < 8000
    ·obtain ⟨rfl,hlt⟩:=h2
     have hlti:(s6.size:Int) < 8000:=by omega
     have hw1:IntKind.i64.wrap (8000 - (s6.size:Int))=8000 - (s6.size:Int):=by rw [IntKind.wrap_i64];omega
     go_wp2_with fail
     refine (pick_any R p6 2 _ (by omega) (by omega) HD6.out.rd).mono ?_
     rintro e w7 ⟨⟨y7,rfl,hy7⟩,hr7,hs7⟩
     have HD7:=hid (HD6.out.sv hr7 hs7)
     obtain ⟨z,hz⟩:∃ z:Nat,(8000 - s6.size)+y7=z:=⟨_,rfl⟩
     have hw2:IntKind.i64.wrap (8000 - (s6.size:Int)+(y7:Int))=(z:Int):=by rw [IntKind.wrap_i64];omega
     have HM:=hid (fun W=>many_q ⟨#[32]⟩ z W (by show 1 * z≤_;omega) (by omega) (by decide))
     clear hr7 hs7 hy7 hz
     go_wp2_with fail
     refine (HM.out _).mono ?_
     rintro e w8 ⟨⟨t8,rfl,ht8⟩,hw8⟩
     have e8:=hw8.symm
     subst e8
     go_wp2
     go_ret
     exact HFIN.out _ _ _ HD7.out (by rw [ByteArray.size_append];omega)
    ·have HFL:Hid (¬ (k=2∧s6.size < 8000)):=h2
     go_upto_region 11 with fail
     go_cut [41] (fun c wx=>c=.bool false∧DS R w p6 wx)
     case first =>
      by_cases hk2:k=2
      ·subst hk2
       have hge:¬ (s6.size:Int) < 8000:=by have:=HFL.out;omega
       go_wp2_with fail
       go_meet
       case rel=>exact ⟨rfl,HD6.out⟩
      ·have hkf:((k:Int) == 2)=false:=by simp;omega
       go_wp2_with fail
       go_meet
       case rel=>exact ⟨rfl,HD6.out⟩
     case rest =>
      obtain ⟨rfl,d7⟩:=hcut
      have HD7:=hid d7
      clear d7 HD6
      go_wp2_with fail
      refine (pick_any R p6 2 _ (by omega) (by omega) HD7.out.rd).mono ?_
      rintro e w8 ⟨⟨y8,rfl,hy8⟩,hr8,hs8⟩
      have HD8:=hid (HD7.out.sv hr8 hs8)
      clear hr8 hs8 hy8
      by_cases h80:y8=0
      ·subst h80
       go_wp2_with fail
       refine (bend_at R (p6+1) s6 _ (by omega) hs6 HD8.out.rd).mono ?_
       rintro e w9 ⟨⟨s9,rfl,hs9⟩,p9,hp9,hp10,hr9,hs10⟩
       have HD9:=hid (HD8.out.sv hr9 hs10)
       clear hr9 hs10
       go_wp2
       go_ret
       exact HFIN.out _ _ _ HD9.out hs9
      ·have h8f:((y8:Int) == 0)=false:=by simpa using h80
       go_wp2
       go_ret
       exact HFIN.out _ _ _ HD8.out (by omega)
set_option maxHeartbeats 8000000 in
theorem drawScan_any (ad:Option Addr) (n cap:Nat) (w:World) (hn:n≤1048576) (hc:n≤cap) (hcm:cap≤9223372036854775807) (h:CodeA w ad n) (hnil:ad=none→n=0∧cap=0) :
  Calls Tryz.prog 4 #[.slice ad n cap] w (TxDr w):=by
 have HC:=hid h
 have HNIL:=hid hnil
 clear h hnil
 go_enter Tryz.func4,Tryz.ntmps4
 go_wp2_with fail
 refine (l1Open_any ad n cap _ hn hc hcm HC.out HNIL.out).mono ?_
 rintro e w1 ⟨rfl,r1,hb1⟩
 have HD1:Hid (DS w.heap.size w 0 w1):=⟨r1,hb1⟩
 clear r1 hb1
 obtain ⟨R,hR⟩:∃ g,w.heap.size=g:=⟨_,rfl⟩
 have HFIN:Hid (∀ p V (y:ByteArray),DS R w p V→y.size≤300000000→TxDr w (.returned (.string y)) V):=fun p V y hd hy=>⟨⟨y,rfl,hy⟩,by rw [hR];exact hd.lo⟩
 have HLO:Hid (∀ p V,DS R w p V→Below w.heap.size w V):=fun p V hd=>by rw [hR];exact hd.lo
 rw [hR] at HD1 ⊢
 clear hR
 go_wp2_with fail
 refine (pick_any R 0 20 _ (by omega) (by omega) HD1.out.rd).mono ?_
 rintro e w2 ⟨⟨k,rfl,hk⟩,hr2,hs2⟩
 have HD2:=hid (HD1.out.sv hr2 hs2)
 clear hr2 hs2 HD1
 by_cases h0:k=0
 ·subst h0
  go_wp2_with fail
  refine (pick_any R (0+1) 2 _ (by omega) (by omega) HD2.out.rd).mono ?_
  rintro e w3 ⟨⟨y,rfl,hy⟩,hr3,hs3⟩
  have HD3:=hid (HD2.out.sv hr3 hs3)
  obtain ⟨z,hz⟩:∃ z:Nat,1000+y=z:=⟨_,rfl⟩
  have hwr:IntKind.i64.wrap (1000+(y:Int))=(z:Int):=by rw [IntKind.wrap_i64];omega
  have HM:=hid (fun W=>l1Many_any ⟨#[120]⟩ z W (by show 1 * z≤_;omega) (by omega) (by decide))
  clear hr3 hs3 hy hz
  go_wp2_with fail
  refine (HM.out _).mono ?_
  rintro e w4 ⟨⟨t4,rfl,ht4⟩,hw4⟩
  have e4:=hw4.symm
  subst e4
  go_wp2_with fail
  refine (quote_q t4 _ ht4).mono ?_
  rintro e w5 ⟨⟨t5,rfl,ht5⟩,hb5⟩
  have HD5:=hid (HD3.out.next hb5)
  clear hb5
  go_wp2
  go_ret
  exact HFIN.out _ _ _ HD5.out (by omega)
 ·have h0f:((k:Int) == 0)=false:=by simp;omega
  by_cases h6:k < 6
  ·have h6i:(k:Int) < 6:=by omega
   have HLW:=hid (HLO.out _ _ HD2.out)
   have HC2:=hid (CodeA.next HC.out HLW.out)
   go_wp2_with fail
   refine (drawParse_any ad n cap w2 hn hc hcm HC2.out HNIL.out).mono ?_
   rintro e w3 ⟨⟨y3,rfl,hy3⟩,hb3⟩
   have HB3:=hid (HLW.out.trans (hb3.mono HLW.out.size))
   clear hb3
   go_wp2
   go_ret
   exact ⟨⟨_,rfl,hy3⟩,HB3.out⟩
  ·have h6i:¬ (k:Int) < 6:=by omega
   go_wp2_with fail
   refine (pick_any R (0+1) 30 _ (by omega) (by omega) HD2.out.rd).mono ?_
   rintro e w3 ⟨⟨m,rfl,hm⟩,hr3,hs3⟩
   have HD3:=hid (HD2.out.sv hr3 hs3)
   have hm30:m≤30:=by omega
   clear hr3 hs3 hm
   go_wp2
   go_loopw [5,6] (fun v a wr=>∃ (o:ByteArray) (j p:Nat),v=.string o∧a=.int .i64 j∧j≤m∧o.size≤(m - j) * 20001∧p≤2+(m - j) * 21∧DS R w p wr) (fun _ a _=>(intOf a).toNat)
   case atStart=>exact ⟨⟨#[]⟩,m,0+1+1,rfl,rfl,Nat.le_refl _,by show 0≤_;omega,by omega,HD3.out⟩
   case round =>
    obtain ⟨o,j,p,rfl,rfl,hj,ho,hp,hd⟩:=hrel
    have HDR:=hid hd
    clear hd
    by_cases hjz:j=0
    ·subst hjz
     go_wp2
     go_ret
     exact HFIN.out _ _ _ HDR.out (by omega)
    ·have hji:(0:Int) < (j:Int):=by omega
     have hwj:IntKind.i64.wrap ((j:Int) - 1)=((j - 1:Nat):Int):=by rw [IntKind.wrap_i64];omega
     obtain ⟨i,hi⟩:∃ i,j - 1=i:=⟨_,rfl⟩
     rw [hi] at hwj
     have hij:j=i+1:=by omega
     have HO:Hid (o.size≤(m - j) * 20001∧p≤2+(m - j) * 21∧j≤m):=⟨ho,hp,hj⟩
     have HIJ:=hid hij
     have hob:o.size≤600030:=by omega
     have hpb:p≤700:=by omega
     clear ho hp hi hij
     go_wp2_with fail
     refine (piece_at R p _ (by omega) HDR.out.rd).mono ?_
     rintro e w5 ⟨⟨y5,rfl,hy5⟩,p5,hp5,hp6,hr5,hs5⟩
     have HD5:=hid (HDR.out.sv hr5 hs5)
     clear hr5 hs5
     go_wp2_with fail
     refine (pick_any R p5 3 _ (by omega) (by omega) HD5.out.rd).mono ?_
     rintro e w6 ⟨⟨y6,rfl,hy6⟩,hr6,hs6⟩
     have HD6:=hid (HD5.out.sv hr6 hs6)
     clear hr6 hs6 hy6
     by_cases h60:y6=0
     ·subst h60
      go_wp2
      go_roundw
      case rel=>exact ⟨_,i,_,rfl,by go_num,by have:=HO.out;have:=HIJ.out;omega,by rw [ByteArray.size_append];have:=HO.out;have:=HIJ.out;omega,by have:=HO.out;have:=HIJ.out;omega,HD6.out⟩
      case measure=>have:=HIJ.out;simp [intOf];omega
     ·have h6g:(0:Int) < (y6:Int):=by omega
      go_wp2
      go_roundw
      case rel=>exact ⟨_,i,_,rfl,by go_num,by have:=HO.out;have:=HIJ.out;omega,by rw [ByteArray.size_append,ByteArray.size_append];show o.size+y5.size+1≤_;have:=HO.out;have:=HIJ.out;omega,by have:=HO.out;have:=HIJ.out;omega,HD6.out⟩
      case measure=>have:=HIJ.out;simp [intOf];omega
end Go.Proofs.YtabbahpalemlhaaGreatDoor.Tk
