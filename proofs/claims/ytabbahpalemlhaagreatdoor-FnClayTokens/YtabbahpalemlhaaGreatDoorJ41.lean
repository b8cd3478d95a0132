import Derived.Deep.DeepCutAuto
import Derived.Test.YtabbahpalemlhaaGreatDoorJ30
import Derived.Test.YtabbahpalemlhaaGreatDoorJ40
namespace Go.Proofs.YtabbahpalemlhaaGreatDoor.Tk
open Go.RowKit
set_option maxRecDepth 20000
set_option maxHeartbeats 4000000 in
theorem plain_24 {nd:Nat→Nd} {O:List (List Nat)} {N b cap g co P j:Nat} {op n kids:Int} {t:ByteArray} {ks:List Nat} (h:Ctx nd O N b cap g co P j ⟨24,op,n,t,kids⟩ ks):InkOk nd O N b cap g co P j:=by
 intro W hp
 have H:=hid h
 have HP:=hid hp
 have hN:=h.hN
 have hj:=h.hj
 have p0:=hp.c0
 have p1:=hp.c1
 have hpl0:=hp.pl
 have hgl0:=hp.gl
 obtain ⟨gk,ck,hc,hgk,⟨n0,n1,n2,n3,n4⟩,hlc,hcm,HR⟩:=h.at hp
 dsimp only at n0 n1 n2 n3 n4
 have hpd:=h.plain
 have hts:=plain_text hpd
 dsimp only at hts
 have hkd:=h.kidsOk
 simp only [KidsOk] at hkd
 simp only [PlainNd] at hpd
 have hsum:=h.sum
 have htop:=h.top
 clear h hp
 clear hkd hpd
 obtain ⟨ZJ,hZJ⟩:∃ Z,wgt O j=Z:=⟨_,rfl⟩
 rw [hZJ] at hsum htop ⊢
 clear hZJ
 have HB0:=hid (Below.refl (W.heap.size+1) (W.alloc (.cells #[.int .i64 24,.int .i64 op,.int .i64 n,.string t,.int .i64 kids] 81)))
 have HPN:Hid (∀ V,Below (W.heap.size+1) (W.alloc (.cells #[.int .i64 24,.int .i64 op,.int .i64 n,.string t,.int .i64 kids] 81)) V→PenAt nd O N b cap g co P V):=fun V h=>HP.out.next (btree h)
 have HEK:=hid (fun k hk=>(H.out.kid k hk).2.1)
 have hml:=H.out.kl
 obtain ⟨i0,hi,hz0,hz1,hz2⟩:=info_parts (P:=Tryz.prog) (e:=5) (z:=.int .u8 0) (size:=1) (bytes:=1) (by kernel_rfl)
 have HHI:=hid (And.intro hi (And.intro hz0 (And.intro hz1 hz2)))
 clear hi hz0 hz1 hz2
 have HSUM:Hid (ZJ=4000+wgts O ks):=hsum
 have HTOP:Hid (ZJ≤20000000):=htop
 have HBS:Hid (Below W.heap.size W ((W.alloc (.cells #[.int .i64 24,.int .i64 op,.int .i64 n,.string t,.int .i64 kids] 81)).alloc (.cells #[] 5))):=((Below.refl W.heap.size W).alloc (Nat.le_refl _) _).alloc (by simp) _
 have HBY:Hid (Bytes W.heap.size ((W.alloc (.cells #[.int .i64 24,.int .i64 op,.int .i64 n,.string t,.int .i64 kids] 81)).alloc (.cells #[] 5)) (.slice (some ⟨W.heap.size+1,0,none⟩) 0 0) 0):=by
  have h:=bytes_empty (W.alloc (.cells #[.int .i64 24,.int .i64 op,.int .i64 n,.string t,.int .i64 kids] 81))
  rw [World.size_alloc] at h
  obtain ⟨l,⟨h1,h2⟩,h3⟩:=h
  refine ⟨l,⟨h1,?_⟩,h3⟩
  rcases h2 with h2 | ⟨g2,c2,cur,e,hg,r⟩
  ·exact .inl h2
  ·exact .inr ⟨g2,c2,cur,e,by omega,r⟩
 clear hsum htop
 go_enter Tryz.func36,Tryz.ntmps36
 go_wp2
 go_loopw [8,9] (fun v a wr=>∃ q:Nat,q≤ks.length∧a=.int .i64 q∧Bytes W.heap.size wr v (wgts O (ks.take q))∧Below W.heap.size W wr) (fun _ a _=>ks.length - (intOf a).toNat)
 case atStart=>exact ⟨0,Nat.zero_le _,rfl,HBY.out,HBS.out⟩
 case round =>
  obtain ⟨q,hq,rfl,hby,hbw⟩:=hrel
  have HBW:=hid hbw
  have hwz:=hbw.size
  have HTL:=hid (wgts_take_le O ks q)
  obtain ⟨l,hown,hll⟩:=hby
  have OWN0:=hid hown
  have HLL:=hid hll
  have hl2:l.length≤20000000:=by have:=HSUM.out;have:=HTOP.out;have:=HTL.out;omega
  obtain ⟨ao,cp,rfl⟩:=own_slice' hown
  clear hown hbw hll
  by_cases hlt:q < ks.length
  ·have HTS:=hid (wgts_take_succ O ks q hlt)
   have HTM:=hid (wgts_take_le O ks (q+1))
   have hcq:=row_int (HR.out.below HBW.out hgk) q hlt
   have hgd:ks.getD q 0=ks[q]:=by rw [List.getD_eq_getElem?_getD,List.getElem?_eq_getElem hlt];rfl
   rw [hgd] at hcq
   have HEY:=hid (HEK.out ks[q] (List.getElem_mem hlt))
   obtain ⟨y,hy⟩:∃ y,ks[q]=y:=⟨_,rfl⟩
   rw [hy] at hcq HTS HEY
   have hKB:wgt O y≤20000000:=by have:=HSUM.out;have:=HTOP.out;have:=HTS.out;have:=HTM.out;omega
   clear hgd hy
   go_wp2_with (first
    | (go_at_call 36;refine (HEY.out _ (HP.out.next HBW.out)).mono ?_;rintro e w3 ⟨⟨S,rfl,hS⟩,hb3⟩;have HB3:=hid (HBW.out.trans (hb3.mono hwz));have HO3:=hid (own_below OWN0.out hb3);have hz3:=HB3.out.size;clear hb3)
    | (at_builtin;refine Lib.wpList_append_own_string _ rfl _ _ 22 9 rfl W.heap.size 5 i0 Tryz.underlying22 Tryz.underlying9 HHI.out.1 HHI.out.2.1 HHI.out.2.2.1 HHI.out.2.2.2 _ _ _ rfl HO3.out S rfl (by unfold maxLen;omega) (by omega) hz3 ?_;intro v4 w4 o4 g4 _;have HO4:=hid (Bytes.app HLL.out o4);obtain ⟨a4,c4,rfl⟩:=own_slice' o4;have HB4:=hid (HB3.out.grown g4 hz3 (fun k e=>(HO3.out.lt k e).1));clear o4 g4))
   go_wp2
   go_roundw
   case rel=>exact ⟨q+1,by omega,by go_num,HO4.out.mono (by have:=HTS.out;omega),HB4.out⟩
   case measure=>simp [intOf];omega
  ·obtain rfl:q=ks.length:=by omega
   have hcv:=conv_row wr W.heap.size _ _ OWN0.out
   have HT:Hid (wgts O (ks.take ks.length)=wgts O ks):=by show _=_;rw [List.take_of_length_le (Nat.le_refl _)]
   go_wp2
   go_ret
   exact ⟨⟨_,rfl,by show l.toArray.size+100≤_;have:=HLL.out;have:=HT.out;have:=HSUM.out;simp;omega⟩,HBW.out⟩
set_option maxHeartbeats 4000000 in
theorem plain_8 {nd:Nat→Nd} {O:List (List Nat)} {N b cap g co P j:Nat} {op n kids:Int} {t:ByteArray} {ks:List Nat} (h:Ctx nd O N b cap g co P j ⟨8,op,n,t,kids⟩ ks):InkOk nd O N b cap g co P j:=by
 intro W hp
 have H:=hid h
 have HP:=hid hp
 have hN:=h.hN
 have hj:=h.hj
 have p0:=hp.c0
 have p1:=hp.c1
 have hpl0:=hp.pl
 have hgl0:=hp.gl
 obtain ⟨gk,ck,hc,hgk,⟨n0,n1,n2,n3,n4⟩,hlc,hcm,HR⟩:=h.at hp
 dsimp only at n0 n1 n2 n3 n4
 have hpd:=h.plain
 have hts:=plain_text hpd
 dsimp only at hts
 have hkd:=h.kidsOk
 simp only [KidsOk] at hkd
 simp only [PlainNd] at hpd
 have hsum:=h.sum
 have htop:=h.top
 clear h hp
 clear hkd hpd
 obtain ⟨ZJ,hZJ⟩:∃ Z,wgt O j=Z:=⟨_,rfl⟩
 rw [hZJ] at hsum htop ⊢
 clear hZJ
 have HB0:=hid (Below.refl (W.heap.size+1) (W.alloc (.cells #[.int .i64 8,.int .i64 op,.int .i64 n,.string t,.int .i64 kids] 81)))
 have HPN:Hid (∀ V,Below (W.heap.size+1) (W.alloc (.cells #[.int .i64 8,.int .i64 op,.int .i64 n,.string t,.int .i64 kids] 81)) V→PenAt nd O N b cap g co P V):=fun V h=>HP.out.next (btree h)
 have HLI:Hid (∀ V,Below (W.heap.size+1) (W.alloc (.cells #[.int .i64 8,.int .i64 op,.int .i64 n,.string t,.int .i64 kids] 81)) V→Calls Tryz.prog 55 #[.pointer (some ⟨P,0,none⟩),.slice (some ⟨gk,0,none⟩) ks.length ck] V fun e w'=>(∃ y:ByteArray,e=.returned (.string y)∧y.size≤wgts O ks)∧Below V.heap.size V w'):=fun V hV=>H.out.li (fun _ h=>h) (Nat.le_refl _) (Nat.le_refl _) ck V (HPN.out V hV) (.inr ⟨gk,0,rfl,Nat.lt_of_lt_of_le hgk (btree hV).size,fun i hi=>by rw [Nat.zero_add];exact row_at HR.out hgk hV i hi⟩)
 obtain ⟨Zk,hZk⟩:∃ Z,wgts O ks=Z:=⟨_,rfl⟩
 obtain ⟨m,hm⟩:∃ m,ks.length=m:=⟨_,rfl⟩
 have hml:=H.out.kl
 rw [hm] at HLI hc hml hlc
 rw [hZk] at HLI hsum
 clear hZk hm
 have HE1:=HLI
 go_enter Tryz.func36,Tryz.ntmps36
 go_wp2_with fail
 refine (HE1.out _ HB0.out).mono ?_
 rintro e w1 ⟨⟨y1,rfl,hy1⟩,hb1⟩
 have HB1:=hid (below_next HB0.out hb1)
 clear hb1
 go_wp2
 go_ret
 exact ⟨⟨_,rfl,by (try simp only [ByteArray.size_append]);show 1+y1.size+1+100≤_;omega⟩,btree HB1.out⟩
set_option maxHeartbeats 4000000 in
theorem plain_9 {nd:Nat→Nd} {O:List (List Nat)} {N b cap g co P j:Nat} {op n kids:Int} {t:ByteArray} {ks:List Nat} (h:Ctx nd O N b cap g co P j ⟨9,op,n,t,kids⟩ ks):InkOk nd O N b cap g co P j:=by
 intro W hp
 have H:=hid h
 have HP:=hid hp
 have hN:=h.hN
 have hj:=h.hj
 have p0:=hp.c0
 have p1:=hp.c1
 have hpl0:=hp.pl
 have hgl0:=hp.gl
 obtain ⟨gk,ck,hc,hgk,⟨n0,n1,n2,n3,n4⟩,hlc,hcm,HR⟩:=h.at hp
 dsimp only at n0 n1 n2 n3 n4
 have hpd:=h.plain
 have hts:=plain_text hpd
 dsimp only at hts
 have hkd:=h.kidsOk
 simp only [KidsOk] at hkd
 simp only [PlainNd] at hpd
 have hsum:=h.sum
 have htop:=h.top
 clear h hp
 clear hkd hpd
 obtain ⟨ZJ,hZJ⟩:∃ Z,wgt O j=Z:=⟨_,rfl⟩
 rw [hZJ] at hsum htop ⊢
 clear hZJ
 have HB0:=hid (Below.refl (W.heap.size+1) (W.alloc (.cells #[.int .i64 9,.int .i64 op,.int .i64 n,.string t,.int .i64 kids] 81)))
 have HPN:Hid (∀ V,Below (W.heap.size+1) (W.alloc (.cells #[.int .i64 9,.int .i64 op,.int .i64 n,.string t,.int .i64 kids] 81)) V→PenAt nd O N b cap g co P V):=fun V h=>HP.out.next (btree h)
 have HLI:Hid (∀ V,Below (W.heap.size+1) (W.alloc (.cells #[.int .i64 9,.int .i64 op,.int .i64 n,.string t,.int .i64 kids] 81)) V→Calls Tryz.prog 55 #[.pointer (some ⟨P,0,none⟩),.slice (some ⟨gk,0,none⟩) ks.length ck] V fun e w'=>(∃ y:ByteArray,e=.returned (.string y)∧y.size≤wgts O ks)∧Below V.heap.size V w'):=fun V hV=>H.out.li (fun _ h=>h) (Nat.le_refl _) (Nat.le_refl _) ck V (HPN.out V hV) (.inr ⟨gk,0,rfl,Nat.lt_of_lt_of_le hgk (btree hV).size,fun i hi=>by rw [Nat.zero_add];exact row_at HR.out hgk hV i hi⟩)
 obtain ⟨Zk,hZk⟩:∃ Z,wgts O ks=Z:=⟨_,rfl⟩
 obtain ⟨m,hm⟩:∃ m,ks.length=m:=⟨_,rfl⟩
 have hml:=H.out.kl
 rw [hm] at HLI hc hml hlc
 rw [hZk] at HLI hsum
 clear hZk hm
 have HE1:=HLI
 go_enter Tryz.func36,Tryz.ntmps36
 go_wp2_with fail
 refine (HE1.out _ HB0.out).mono ?_
 rintro e w1 ⟨⟨y1,rfl,hy1⟩,hb1⟩
 have HB1:=hid (below_next HB0.out hb1)
 clear hb1
 go_wp2
 go_ret
 exact ⟨⟨_,rfl,by (try simp only [ByteArray.size_append]);show 1+y1.size+1+100≤_;omega⟩,btree HB1.out⟩
end Go.Proofs.YtabbahpalemlhaaGreatDoor.Tk
namespace Go.Proofs.YtabbahpalemlhaaGreatDoor
open Go.RowKit
set_option maxRecDepth 20000
set_option maxHeartbeats 8000000 in
theorem post_at {s:Ds} {ov0:Value} {w0:World} {p n:Nat} {bad:Bool} {w:World} (hE:∀ q,p < q→EOk9 s q) (h:Ad s ov0 w0 p bad n w) (hl:n+2 * s.T≤400000+2 * p) :
  Calls Tryz.prog 103 #[.pointer (some ⟨s.D,0,none⟩)] w (DE 0 s ov0 w0 p n):=by
 have HA0:=hid h
 have hT:=h.pT.2
 clear h
 go_enter Tryz.func103,Tryz.ntmps103
 go_wp2_with fail
 refine (single_at hE HA0.out (by have:=HA0.out.pT;omega)).mono ?_
 rintro e w1 ⟨rfl,p1,b1,n1,l1a,l1b,l1c,a1⟩
 have HA1:=hid a1
 clear a1 HA0
 go_wp2
 go_loopw [] (fun wr=>∃ q k:Nat,∃ bb:Bool,p≤q∧n≤k∧k+2 * p≤n+2 * q∧Ad s ov0 w0 q bb k wr) (fun wr=>s.T - deskP s wr)
 case atStart=>exact ⟨p1,n1,b1,by omega,by omega,by omega,HA1.out⟩
 case round =>
  obtain ⟨q,k,bb,lq,lk,lkq,ad⟩:=hrel
  have HAr:=hid ad
  have HDP:=hid ad.deskP
  have hqT:=ad.pT.1
  clear ad HA1
  obtain ⟨_,_,c3,_⟩:=HAr.out.cells
  cases bb
  ·go_wp2_with fail
   refine (take_at HAr.out _).mono ?_
   rintro e w2 (⟨rfl,l2,a2⟩ | ⟨rfl,a2⟩)
   ·have HA2:=hid a2
    clear a2 HAr
    go_wp2_with fail
    refine (args_at (p:=(q+1)) (fun q hq=>hE q (by omega)) HA2.out (by have:=HA2.out.pT;omega)).mono ?_
    rintro e w3 ⟨m3,p3,b3,n3,rfl,l3m,l3a,l3b,l3c,a3⟩
    have HA3:=hid a3
    have z3:=a3.pT.1
    have hm3:m3≤100001:=by omega
    clear a3 HA2
    go_wp2_with fail
    refine (put_at9 HA3.out ⟨12,0,0,⟨#[]⟩,1+(m3:Int)⟩ (by show (⟨#[]⟩:ByteArray).size≤1000;decide) (by have:=HA3.out.pT;omega)).mono ?_
    rintro e w4 ⟨rfl,a4⟩
    have HA4:=hid a4
    clear a4 HA3
    go_wp2
    go_roundw
    case rel=>exact ⟨p3,(n3+1),b3,by omega,by omega,by omega,HA4.out⟩
    case measure=>rw [HA4.out.deskP,HDP.out];have:=HA4.out.pT;omega
   ·have HA2:=hid a2
    clear a2 HAr
    go_wp2_with fail
    refine (take_at HA2.out _).mono ?_
    rintro e w5 (⟨rfl,l5,a5⟩ | ⟨rfl,a5⟩)
    ·have HA5:=hid a5
     clear a5 HA2
     go_wp2_with fail
     refine (hE (q+1) (by omega) _ _ _ _ _ HA5.out (by have:=HA5.out.pT;omega)).mono ?_
     rintro e w6 ⟨rfl,p6,b6,n6,l6a,l6b,l6c,a6⟩
     have HA6:=hid a6
     clear a6 HA5
     go_wp2_with fail
     refine (need_at HA6.out _).mono ?_
     rintro e w7 ⟨rfl,p7,b7,l7a,l7b,a7⟩
     have HA7:=hid a7
     clear a7 HA6
     go_wp2_with fail
     refine (put_at9 HA7.out ⟨10,0,0,⟨#[]⟩,2⟩ (by show (⟨#[]⟩:ByteArray).size≤1000;decide) (by have:=HA7.out.pT;omega)).mono ?_
     rintro e w8 ⟨rfl,a8⟩
     have HA8:=hid a8
     clear a8 HA7
     go_wp2
     go_roundw
     case rel=>exact ⟨p7,(n6+1),b7,by omega,by omega,by omega,HA8.out⟩
     case measure=>rw [HA8.out.deskP,HDP.out];have:=HA8.out.pT;omega
    ·have HA5:=hid a5
     clear a5 HA2
     go_wp2_with fail
     refine (take_at HA5.out _).mono ?_
     rintro e w9 (⟨rfl,l9,a9⟩ | ⟨rfl,a9⟩)
     ·have HA9:=hid a9
      clear a9 HA5
      go_wp2_with fail
      refine (name_at9 HA9.out).mono ?_
      rintro e w10 ⟨t10,p10,b10,rfl,x10,l10a,l10b,l10c,a10⟩
      have HA10:=hid a10
      have HX10:=hid x10
      have HC10:=hid l10c
      clear a10 HA9 l10c x10
      go_wp2_with fail
      refine (put_at9 HA10.out ⟨11,0,0,t10,1⟩ (HX10.out) (by have:=HA10.out.pT;omega)).mono ?_
      rintro e w11 ⟨rfl,a11⟩
      have HA11:=hid a11
      clear a11 HA10
      go_wp2
      go_roundw
      case rel=>exact ⟨p10,(k+1),b10,by omega,by omega,by omega,HA11.out⟩
      case measure=>rw [HA11.out.deskP,HDP.out];have:=HA11.out.pT;omega
     ·have HA9:=hid a9
      clear a9 HA5
      go_wp2
      exact bodyPost_ret (results_none rfl _ _ _) rfl ⟨rfl,q,false,k,by omega,by omega,by omega,HA9.out⟩
  ·skip
   go_wp2
   go_end0
   exact ⟨rfl,q,true,k,by omega,by omega,by omega,HAr.out⟩
end Go.Proofs.YtabbahpalemlhaaGreatDoor
