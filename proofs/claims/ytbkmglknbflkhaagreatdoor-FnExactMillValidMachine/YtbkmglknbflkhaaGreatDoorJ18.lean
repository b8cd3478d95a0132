import Derived.OwnWalk
import Derived.Test.YtbkmglknbflkhaaGreatDoorJ06
import Derived.Test.YtbkmglknbflkhaaGreatDoorJ17
namespace Go.Proofs.YtbkmglknbflkhaaGreatDoor.C
open Go.RowKit
set_option maxRecDepth 20000
set_option maxHeartbeats 1000000 in
theorem gives_1 (fns:List Fn) (f:Fn) (a:Int) (n:Int) (tx:ByteArray) (sl sk:List Int) (w:World) (cv pv iv av bv:Value) (h1:FnsRow w cv fns) (h2:IntRow w pv f.params) (h3:InsRow w iv f.ins) (h4:IntRow w av sl) (h5:IntRow w bv sk) (hn:sk.length≤1000) :
  Calls Tryz.prog 110 #[.agg #[cv],.agg #[.string f.name,pv,.int .i64 f.result,.int .i64 f.slots,iv],.agg #[.int .i64 1,.int .i64 a,.int .i64 n,.string tx],.agg #[.int .i64 1,av,bv]] w (GvEnd fns f ⟨1,a,n,tx⟩ sl sk w):=by
 obtain ⟨adA,cA,rfl⟩:=h4.sl
 obtain ⟨adB,cB,rfl⟩:=h5.sl
 have HX:=hid (boxes (i:=⟨1,a,n,tx⟩) h1 h2 h3 h4 h5)
 have HTK:Hid (takesN fns ⟨1,a,n,tx⟩=0):=hid (by simp [takesN])
 have HEF:Hid (∀ tk,eff fns f ⟨1,a,n,tx⟩ sl tk=some [a]):=hid (by intro tk;simp [eff])
 clear h1 h2 h3 h4 h5
 go_enter Tryz.func110,Tryz.ntmps110
 go_upto_region 1 with fail
 obtain ⟨W,hW⟩:∃ W,((((w.alloc (.cells #[cv] 59)).alloc (.cells #[.string f.name,pv,.int .i64 f.result,.int .i64 f.slots,iv] 125)).alloc (.cells #[.int .i64 1,.int .i64 a,.int .i64 n,.string tx] 103)).alloc (.cells #[.int .i64 1,.slice adA sl.length cA,.slice adB sk.length cB] 121))=W:=⟨_,rfl⟩
 have HX2:Hid _:=hid (hW ▸ HX.out)
 rw [hW]
 clear hW HX
 have x0:=HX2.out.i0
 have x1:=HX2.out.i1
 have y1:=HX2.out.s1
 have y2:=HX2.out.s2
 go_upto_if 26 with fail
 go_cut [12] (fun v wx=>v=.int .i64 (tp sk)∧wx=W)
 case first =>
  by_cases hp:0 < sk.length
  ·obtain ⟨g,c,e9,_,_,_,hc⟩:=HX2.out.sk_.at hp
   injection e9 with ea _ ec
   subst ea ec
   have hpi:(0:Int) < (sk.length:Int):=by omega
   have hwr:IntKind.i64.wrap ((sk.length:Int) - 1)=((sk.length - 1:Nat):Int):=by rw [IntKind.wrap_i64];omega
   have hlt:((sk.length - 1:Nat):Int) < (sk.length:Int):=by omega
   have hct:=hc (sk.length - 1) (by omega)
   rw [tp_at hp] at hct
   clear hc
   go_wp2_with fail
   go_meet
   case rel=>exact ⟨rfl,rfl⟩
  ·have hpi:¬ (0:Int) < (sk.length:Int):=by omega
   have HT:=hid (tp_none hp)
   clear hp
   go_wp2_with fail
   go_meet
   case rel=>exact ⟨by rw [HT.out],rfl⟩
 case rest =>
  obtain ⟨rfl,rfl⟩:=hcut
  go_upto_if 34 with fail
  go_cut [13] (fun v wx=>v=.int .i64 (bw sk)∧wx=wc)
  case first =>
   by_cases hp:1 < sk.length
   ·obtain ⟨g,c,e9,_,_,_,hc⟩:=HX2.out.sk_.at (i:=0) (by omega)
    injection e9 with ea _ ec
    subst ea ec
    have hpi:(1:Int) < (sk.length:Int):=by omega
    have hwr:IntKind.i64.wrap ((sk.length:Int) - 2)=((sk.length - 2:Nat):Int):=by rw [IntKind.wrap_i64];omega
    have hlt:((sk.length - 2:Nat):Int) < (sk.length:Int):=by omega
    have hct:=hc (sk.length - 2) (by omega)
    rw [bw_at hp] at hct
    clear hc
    go_wp2_with fail
    go_meet
    case rel=>exact ⟨rfl,rfl⟩
   ·have hpi:¬ (1:Int) < (sk.length:Int):=by omega
    have HT:=hid (bw_none hp)
    clear hp
    go_wp2_with fail
    go_meet
    case rel=>exact ⟨by rw [HT.out],rfl⟩
  case rest =>
   obtain ⟨rfl,hwc⟩:=hcut
   subst hwc
   go_wp2_with fail
   go_region
   all_goals
    go_wp2
    go_ret3
    exact gv_ok (k:=0) (by first | exact HX2.out.lo.alloc HX2.out.lo.size _ | exact (HX2.out.lo.alloc HX2.out.lo.size _).drew) (by decide) HTK.out.symm (by omega) (HEF.out _) (by first | exact row1 _ _ | exact (row1 _ _).next (Below.refl _ _).drew)
theorem join_apart {a b:Sh} (h1:a.st=1) (h:¬ a.sk=b.sk):join a b=top:=by simp [join,h1,h]
theorem join_both {a b:Sh} (h1:a.st=1) (h2:b.st=1) (h:a.sk=b.sk):join a b=⟨1,slJoin a.sl b.sl,a.sk⟩:=by simp [join,h1,h2,h]
structure JI (a b:Sh) (w:World) (b6:Nat) (x y x' y' ov:Value) (j:Nat) (ch:Bool) (W:World):Prop where
 lo:Below w.heap.size w W
 e0:W.heap[w.heap.size]?=some (sbox 1 x y)
 e1:W.heap[w.heap.size+1]?=some (sbox 1 x' y')
 e2:W.heap[w.heap.size+1+1]?=some (sbox 0 (.slice none 0 0) (.slice none 0 0))
 e6:W.heap[b6]?=some (sbox 1 ov y)
 gt:w.heap.size+1+1 < b6
 own:W.ownsRow (b6+1) 3 1 ov j (((slJoin a.sl b.sl).take j).map fun x=>Value.int .i64 x)
 chg:ch=true ↔ ¬ (slJoin a.sl b.sl).take j=a.sl.take j
theorem JI.next {a b:Sh} {w:World} {b6:Nat} {x y x' y' ov:Value} {j:Nat} {ch:Bool} {W V:World} (h:JI a b w b6 x y x' y' ov j ch W) (hb:Below W.heap.size W V):JI a b w b6 x y x' y' ov j ch V :=
 ⟨h.lo.trans (hb.mono h.lo.size),hp_next h.e0 hb,hp_next h.e1 hb,hp_next h.e2 hb,hp_next h.e6 hb,h.gt,own_next h.own hb,h.chg⟩
theorem take_more (l:List Int) {j:Nat} (hj:j < l.length):l.take (j+1)=l.take j ++ [l.getD j 0]:=by
 rw [List.take_add_one,List.getElem?_eq_getElem hj,List.getD_eq_getElem?_getD,List.getElem?_eq_getElem hj]
 rfl
theorem JI.more {a b:Sh} {w:World} {b6:Nat} {x y x' y' ov:Value} {j:Nat} {ch:Bool} {W V:World} (h:JI a b w b6 x y x' y' ov j ch W) (hl:a.sl.length=b.sl.length) (hj:j < a.sl.length) {v':Value} {ch':Bool} {t:Int} (ht:(slJoin a.sl b.sl).getD j 0=t) (hg:W.grownBy V ov.ownBlock) (ho:V.ownsRow (b6+1) 3 1 v' (j+1) (((slJoin a.sl b.sl).take j).map (fun x=>Value.int .i64 x) ++ [.int .i64 t])) (hc:ch'=true ↔ ch=true∨¬ t=a.sl.getD j 0):JI a b w b6 x y x' y' v' (j+1) ch' (V.setCell ⟨b6,1,none⟩ v'):=by
 have hk:∀ i,i < b6+1→i < W.heap.size→V.heap[i]?=W.heap[i]?:=fun i hi hz=>hg.block i hz (own_ne h.own hi)
 have z6:=lt_hp h.e6
 have hgt:=h.gt
 have hlj:(slJoin a.sl b.sl).length=a.sl.length:=slJoin_length _ _ hl
 refine ⟨set_lo ⟨hg.os.trans h.lo.os,hg.tape.trans h.lo.tape,hg.output.trans h.lo.output,Nat.le_trans h.lo.size hg.size,fun i hi=>(hk i (by omega) (by have:=h.lo.size;omega)).trans (h.lo.block i hi)⟩ _ _ (by omega) _,?_,?_,?_,set1_box ((hk b6 (by omega) z6).trans h.e6) _,hgt,?_,?_⟩
 ·rw [set_other _ _ _ _ _ (by omega),hk _ (by omega) (lt_hp h.e0)];exact h.e0
 ·rw [set_other _ _ _ _ _ (by omega),hk _ (by omega) (lt_hp h.e1)];exact h.e1
 ·rw [set_other _ _ _ _ _ (by omega),hk _ (by omega) (lt_hp h.e2)];exact h.e2
 ·apply own_set _ (by omega)
  rw [take_more _ (by omega),List.map_append,ht]
  exact ho
 ·rw [hc,h.chg,take_more _ (by omega),take_more _ hj,ht]
  constructor
  ·rintro (h1 | h1) h2
   ·exact h1 (List.append_inj_left h2 (by simp;omega))
   ·have:=List.append_inj_right h2 (by simp;omega)
    exact h1 (by simpa using this)
  ·intro h1
   by_cases e:t=a.sl.getD j 0
   ·refine .inl fun h2=>h1 ?_
    rw [h2,e]
   ·exact .inr e
theorem JI.start {a b:Sh} {w w4:World} {x y x' y':Value} (lo:Below w.heap.size w w4) (e0:w4.heap[w.heap.size]?=some (sbox 1 x y)) (e1:w4.heap[w.heap.size+1]?=some (sbox 1 x' y')) (e2:w4.heap[w.heap.size+1+1]?=some (sbox 0 (.slice none 0 0) (.slice none 0 0))):JI a b w w4.heap.size x y x' y' (.slice none 0 0) 0 false (w4.alloc (sbox 1 (.slice none 0 0) y)):=by
 have hb:Below w4.heap.size w4 (w4.alloc (sbox 1 (.slice none 0 0) y)):=(Below.refl _ _).alloc (Nat.le_refl _) _
 exact ⟨lo.trans (hb.mono lo.size),hp_next e0 hb,hp_next e1 hb,hp_next e2 hb,heap_alloc_new _ _,lt_hp e2,⟨by simp,.inl ⟨rfl,rfl⟩⟩,by simp⟩
set_option maxHeartbeats 8000000 in
theorem join_known {a b:Sh} (h1:a.st=1) (h2:b.st=1) (hl:a.sl.length=b.sl.length) (hS:a.sl.length≤200) (hK:a.sk.length≤1000) (w:World) (x y x' y':Value) (h4:IntRow w x a.sl) (h5:IntRow w y a.sk) (h6:IntRow w x' b.sl) (h7:IntRow w y' b.sk) :
  Calls Tryz.prog 109 #[shV a.st x y,shV b.st x' y'] w (JoinEnd a b w):=by
 have H1:=hid (And.intro h1 h2)
 have H4:=hid h4
 have H5:=hid h5
 have H6:=hid h6
 have H7:=hid h7
 have hl1:a.sl.length≤b.sl.length:=by omega
 have hl2:b.sl.length≤a.sl.length:=by omega
 have HL:=hid hl
 obtain ⟨a1,c1,rfl⟩:=h4.sl
 obtain ⟨a2,c2,rfl⟩:=h5.sl
 obtain ⟨a3,c3,rfl⟩:=h6.sl
 obtain ⟨a4,c4,rfl⟩:=h7.sl
 obtain ⟨i0,hi,hz0,hz1,hz2⟩:=int_parts
 have HHI:=hid (And.intro hi (And.intro hz0 (And.intro hz1 hz2)))
 clear hi hz0 hz1 hz2
 unfold shV
 rw [h1,h2]
 clear h1 h2 h4 h5 h6 h7 hl
 go_enter Tryz.func109,Tryz.ntmps109
 go_wp2_with fail
 refine (same_any (H5.out.next (al3 w _ _ _)) (H7.out.next (al3 w _ _ _)) hK).mono ?_
 rintro e w4 ⟨rfl,hb4⟩
 have HB4:=hid hb4
 obtain ⟨t0,t1,t2⟩:=three w (sbox 1 (.slice a1 a.sl.length c1) (.slice a2 a.sk.length c2)) (sbox 1 (.slice a3 b.sl.length c3) (.slice a4 b.sk.length c4)) (sbox 0 (.slice none 0 0) (.slice none 0 0))
 have e0:=hp_next t0 hb4
 have e1:=hp_next t1 hb4
 have e2:=hp_next t2 hb4
 have HLO:=hid ((al3 w _ _ _).trans (hb4.mono (al3 w _ _ _).size))
 clear hb4 HB4 t0 t1 t2
 have E0:=hid e0
 have E1:=hid e1
 have E2:=hid e2
 obtain ⟨r0,r1,r2,q0,q1,q2⟩:=six_s e2
 obtain ⟨u0,u1,u2,_,_,_⟩:=six_s e0
 clear e0 e1 e2
 by_cases hs:a.sk=b.sk
 ·have HS:=hid hs
  have hd:decide (a.sk=b.sk)=true:=by simp [hs]
  rw [hd]
  clear hd hs
  go_wp2_with fail
  have HJ0:=hid (JI.start (a:=a) (b:=b) HLO.out E0.out E1.out E2.out)
  have hb6:=lt_hp E2.out
  obtain ⟨W5,hW5⟩:∃ W,w4.alloc (sbox 1 (.slice none 0 0) (.slice a2 a.sk.length c2))=W:=⟨_,rfl⟩
  rw [hW5] at HJ0
  unfold sbox at hW5
  rw [hW5]
  obtain ⟨b6,hb6e⟩:∃ b,w4.heap.size=b:=⟨_,rfl⟩
  rw [hb6e] at HJ0 hb6 ⊢
  clear hW5 hb6e E0 E1 E2 r0 r1 r2 q0 q1 q2 u0 u1 u2 HLO
  go_loopw [7,8] (fun c i wr=>∃ (j:Nat) (ch:Bool) (ov:Value),j≤a.sl.length∧c=.bool ch∧i=.int .i64 j∧JI a b w b6 (.slice a1 a.sl.length c1) (.slice a2 a.sk.length c2) (.slice a3 b.sl.length c3) (.slice a4 b.sk.length c4) ov j ch wr) (fun _ i _=>a.sl.length - (intOf i).toNat)
  case atStart=>exact ⟨0,false,_,Nat.zero_le _,rfl,rfl,HJ0.out⟩
  case round =>
   obtain ⟨j,ch,ov,hj,rfl,rfl,hji⟩:=hrel
   have HJ:=hid hji
   obtain ⟨adO,cO,rfl⟩:=own_form hji.own
   obtain ⟨k0,k1,k2,_,_,_⟩:=six_s hji.e0
   obtain ⟨m0,m1,m2,_,_,_⟩:=six_s hji.e1
   obtain ⟨n0,n1,n2,f0,f1,f2⟩:=six_s hji.e2
   obtain ⟨p0,p1,p2,_,_,_⟩:=six_s hji.e6
   have hz6:=lt_hp hji.e6
   clear hji
   by_cases hlt:j < a.sl.length
   ·have hlti:(j:Int) < (a.sl.length:Int):=by omega
    have hltb:j < b.sl.length:=by omega
    have hltbi:(j:Int) < (b.sl.length:Int):=by omega
    obtain ⟨gA,cA2,e9,_,_,_,hcA⟩:=(H4.out.next HJ.out.lo).at hlt
    injection e9 with ea _ ec
    subst ea ec
    obtain ⟨gB,cB2,e9,_,_,_,hcB⟩:=(H6.out.next HJ.out.lo).at hltb
    injection e9 with ea _ ec
    subst ea ec
    have kA:=hcA j hlt
    have kB:=hcB j hltb
    have HT0:=hid (slJoin_get a.sl b.sl HL.out j hlt)
    obtain ⟨x,hx⟩:∃ x,a.sl.getD j 0=x:=⟨_,rfl⟩
    obtain ⟨y,hy⟩:∃ y,b.sl.getD j 0=y:=⟨_,rfl⟩
    rw [hx] at kA HT0
    rw [hy] at kB HT0
    have HXX:=hid hx
    clear hx hy hcA hcB
    by_cases hxy:x=y
    ·subst hxy
     have hxf:(x != x)=false:=by simp
     have HT:Hid ((slJoin a.sl b.sl).getD j 0=x):=hid (by rw [HT0.out,if_pos rfl])
     go_wp2_with (at_builtin;refine wpList_append_own_at _ rfl (.tmp 62) (.tmp 64) 119 rfl (b6+1) 3 i0 (.int .i64 0) 1 8 Tryz.underlying119 HHI.out.1 HHI.out.2.1 HHI.out.2.2.1 HHI.out.2.2.2 rfl (by decide) (.slice adO j cO) j (((slJoin a.sl b.sl).take j).map fun x=>Value.int .i64 x) rfl (HJ.out.own.alloc _) ⟨wr.heap.size,0,none⟩ 1 1 [.int .i64 x] rfl rfl (cell_one_new wr _ _) (by simp [Value.oneCell']) (by unfold maxLen;omega) (by omega) (by simp;omega) ?_;intro v5 w5 o5 g5 nn5 bb5;have HM:=hid (JI.more (HJ.out.next ((Below.refl wr.heap.size wr).alloc (Nat.le_refl _) _)) HL.out hlt (ch':=ch) HT.out g5 o5 (by rw [HXX.out];simp));have e65:=(g5.block b6 (by simp;omega) (own_ne HJ.out.own (by omega))).trans (hp_next HJ.out.e6 ((Below.refl wr.heap.size wr).alloc (Nat.le_refl _) _));obtain ⟨p0,p1,p2,l0,l1,l2⟩:=six_s e65;obtain ⟨ad5,c5,rfl⟩:=own_form o5;clear e65 o5 g5 nn5 bb5)
     go_roundw
     case rel=>exact ⟨j+1,_,_,by omega,rfl,by go_num,HM.out⟩
     case measure=>simp [intOf];omega
    ·have hxf:(x != y)=true:=by simpa using hxy
     have HT:Hid ((slJoin a.sl b.sl).getD j 0=0):=hid (by rw [HT0.out,if_neg hxy])
     by_cases hx0:x=0
     ·subst hx0
      have hzz:((0:Int) != 0)=false:=rfl
      go_wp2_with (at_builtin;refine wpList_append_own_at _ rfl (.tmp 62) (.tmp 64) 119 rfl (b6+1) 3 i0 (.int .i64 0) 1 8 Tryz.underlying119 HHI.out.1 HHI.out.2.1 HHI.out.2.2.1 HHI.out.2.2.2 rfl (by decide) (.slice adO j cO) j (((slJoin a.sl b.sl).take j).map fun x=>Value.int .i64 x) rfl (HJ.out.own.alloc _) ⟨wr.heap.size,0,none⟩ 1 1 [.int .i64 0] rfl rfl (cell_one_new wr _ _) (by simp [Value.oneCell']) (by unfold maxLen;omega) (by omega) (by simp;omega) ?_;intro v5 w5 o5 g5 nn5 bb5;have HM:=hid (JI.more (HJ.out.next ((Below.refl wr.heap.size wr).alloc (Nat.le_refl _) _)) HL.out hlt (ch':=ch) HT.out g5 o5 (by rw [HXX.out];simp));have e65:=(g5.block b6 (by simp;omega) (own_ne HJ.out.own (by omega))).trans (hp_next HJ.out.e6 ((Below.refl wr.heap.size wr).alloc (Nat.le_refl _) _));obtain ⟨p0,p1,p2,l0,l1,l2⟩:=six_s e65;obtain ⟨ad5,c5,rfl⟩:=own_form o5;clear e65 o5 g5 nn5 bb5)
      go_roundw
      case rel=>exact ⟨j+1,_,_,by omega,rfl,by go_num,HM.out⟩
      case measure=>simp [intOf];omega
     ·have hx0f:(x != 0)=true:=by simpa using hx0
      have HX0:=hid hx0
      clear hx0 hxy
      go_wp2_with (at_builtin;refine wpList_append_own_at _ rfl (.tmp 62) (.tmp 64) 119 rfl (b6+1) 3 i0 (.int .i64 0) 1 8 Tryz.underlying119 HHI.out.1 HHI.out.2.1 HHI.out.2.2.1 HHI.out.2.2.2 rfl (by decide) (.slice adO j cO) j (((slJoin a.sl b.sl).take j).map fun x=>Value.int .i64 x) rfl (HJ.out.own.alloc _) ⟨wr.heap.size,0,none⟩ 1 1 [.int .i64 0] rfl rfl (cell_one_new wr _ _) (by simp [Value.oneCell']) (by unfold maxLen;omega) (by omega) (by simp;omega) ?_;intro v5 w5 o5 g5 nn5 bb5;have HM:=hid (JI.more (HJ.out.next ((Below.refl wr.heap.size wr).alloc (Nat.le_refl _) _)) HL.out hlt (ch':=true) HT.out g5 o5 (by rw [HXX.out];simp;exact .inr fun e=>HX0.out e.symm));have e65:=(g5.block b6 (by simp;omega) (own_ne HJ.out.own (by omega))).trans (hp_next HJ.out.e6 ((Below.refl wr.heap.size wr).alloc (Nat.le_refl _) _));obtain ⟨p0,p1,p2,l0,l1,l2⟩:=six_s e65;obtain ⟨ad5,c5,rfl⟩:=own_form o5;clear e65 o5 g5 nn5 bb5)
      go_roundw
      case rel=>exact ⟨j+1,_,_,by omega,rfl,by go_num,HM.out⟩
      case measure=>simp [intOf];omega
   ·obtain rfl:j=a.sl.length:=by omega
    have hge:¬ ((a.sl.length:Int) < (a.sl.length:Int)):=by omega
    have HEND:Hid (join a b=⟨1,slJoin a.sl b.sl,a.sk⟩):=hid (join_both H1.out.1 H1.out.2 HS.out)
    go_wp2
    refine bodyPost_ret (v:=.tuple #[.agg #[.int .i64 1,.slice adO a.sl.length cO,(.slice a2 a.sk.length c2)],.bool ch]) (by simp [results,Tryz.results109,go_sem,n0,n1,n2]) rfl ⟨_,_,rfl,?_,?_,set_lo (set_lo (set_lo HJ.out.lo _ _ (by omega) _) _ _ (by omega) _) _ _ (by omega) _⟩
    ·rw [HEND.out]
     have ho:=HJ.out.own
     have hlj:=slJoin_length a.sl b.sl HL.out
     rw [List.take_of_length_le (by omega)] at ho
     refine ⟨_,_,rfl,?_,(H5.out.next HJ.out.lo).set3 HJ.out.e2 _ _ _⟩
     refine IntRow.set3 (IntRow.own (B:=b6+1) ?_) HJ.out.e2 _ _ _
     rw [hlj]
     exact ho
    ·rw [HEND.out,HJ.out.chg]
     have hlj:=slJoin_length a.sl b.sl HL.out
     rw [List.take_of_length_le (by omega),List.take_length]
     have:=H1.out.1
     cases a
     simp at this
     subst this
     simp
 ·have HS:=hid hs
  have hd:decide (a.sk=b.sk)=false:=by simp [hs]
  rw [hd]
  clear hd hs
  go_wp2
  refine bodyPost_ret (v:=.tuple #[.agg #[.int .i64 2,.slice none 0 0,.slice none 0 0],.bool true]) (by simp [results,Tryz.results109,go_sem,r0,r1,r2]) rfl ⟨_,_,rfl,?_,?_,set_lo (set_lo (set_lo HLO.out _ _ (by omega) _) _ _ (by omega) _) _ _ (by omega) _⟩
  ·rw [join_apart H1.out.1 HS.out]
   exact ⟨_,_,rfl,IntRow.nil _,IntRow.nil _⟩
  ·rw [join_apart H1.out.1 HS.out]
   simp only [true_iff]
   intro e
   have:=H1.out.1
   rw [← e] at this
   simp [top] at this
end Go.Proofs.YtbkmglknbflkhaaGreatDoor.C
