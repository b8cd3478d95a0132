import Derived.Test.YtbkmglknbflkhaaGreatDoorJ06
import Derived.Test.YtbkmglknbflkhaaGreatDoorJ20
import Derived.Test.YtbkmglknbflkhaaGreatDoorJ22
namespace Go.Proofs.YtbkmglknbflkhaaGreatDoor.M
open Go.RowKit
open Go.Proofs.YtbkmglknbflkhaaGreatDoor.J (Says says_t says_f size_zero isEmpty_iff)
open Go.Proofs.YtbkmglknbflkhaaGreatDoor.R (hid)
set_option maxRecDepth 20000
set_option maxHeartbeats 40000000 in
theorem implOvC (x:R.Mc) {v0 v1 v2 v3 v4 v5:Value} {B:Nat} (w:World) (h:MK B w x v0 v1 v2 v3 v4 v5) (hx:R.LoMc x) (ht:x.text.size≤1048576) (p0:Hid (0≤x.fin)) (p1:Hid (¬ x.fin=0)) (p2:Hid (x.fin≤5)) (p3:Hid (x.text.size≤3000)) (p4:Hid (¬ x.files.length=0)) :
  Calls Tryz.prog 34 #[mval x v0 v1 v2 v3 v4 v5] w fun e w'=>Says e (OvOk x)∧Below w.heap.size w w':=by
 obtain ⟨gc,rfl⟩:=h.k0.sl
 obtain ⟨ga,rfl⟩:=h.k1.sl
 obtain ⟨go,rfl⟩:=h.k2.sl
 obtain ⟨gf,rfl⟩:=h.k3.sl
 obtain ⟨gl,rfl⟩:=h.k4.sl
 obtain ⟨gs,rfl⟩:=h.k5.sl
 go_enter Tryz.func34,Tryz.ntmps34
 go_upto_region 1 with fail
 have HX:=hid (MX.start w x (.slice (some ⟨gc,0,none⟩) x.codes.length x.codes.length) (.slice (some ⟨ga,0,none⟩) x.args.length x.args.length) (.slice (some ⟨go,0,none⟩) x.outs.length x.outs.length) (.slice (some ⟨gf,0,none⟩) x.frames.length x.frames.length) (.slice (some ⟨gl,0,none⟩) x.files.length x.files.length) (.slice (some ⟨gs,0,none⟩) x.said.length x.said.length))
 obtain ⟨W1,hW1⟩:∃ W,w.alloc (.cells #[.slice (some ⟨gc,0,none⟩) x.codes.length x.codes.length,.slice (some ⟨ga,0,none⟩) x.args.length x.args.length,.slice (some ⟨go,0,none⟩) x.outs.length x.outs.length,.slice (some ⟨gf,0,none⟩) x.frames.length x.frames.length,.int .i64 x.steps,.int .i64 x.looks,.int .i64 x.kind,.string x.name,.string x.hold,.bool x.over,.int .i64 x.fin,.string x.text,.slice (some ⟨gl,0,none⟩) x.files.length x.files.length,.slice (some ⟨gs,0,none⟩) x.said.length x.said.length] 34)=W:=⟨_,rfl⟩
 rw [hW1] at HX ⊢
 clear hW1
 have HLO:=hid HX.out.lo
 have HOV:Hid (OvOk x ↔ OvP x.fin x.looks x.kind x.name x.hold x.text x.codes.length x.args.length x.outs.length x.frames.length x.files.length):=hid Iff.rfl
 have hb0:=hx.1.1;have hb1:x.args.length≤1048576:=hx.2.1;have hb2:x.outs.length≤1048576:=hx.2.2.1;have hb3:=hx.2.2.2.1.1;have hb4:=hx.2.2.2.2.1.1
 have c10:=HX.out.c10
 have c5:=HX.out.c5
 have c6:=HX.out.c6
 have c7:=HX.out.c7
 have c8:=HX.out.c8
 have c11:=HX.out.c11
 have c0:=HX.out.c0
 have c1:=HX.out.c1
 have c2:=HX.out.c2
 have c3:=HX.out.c3
 have c12:=HX.out.c12
 clear HX h hx
 obtain ⟨fin,e⟩:∃ f,x.fin=f:=⟨_,rfl⟩
 rw [e] at c10 HOV p0 p1 p2
 clear e
 obtain ⟨looks,e⟩:∃ f,x.looks=f:=⟨_,rfl⟩
 rw [e] at c5 HOV
 clear e
 obtain ⟨kind,e⟩:∃ f,x.kind=f:=⟨_,rfl⟩
 rw [e] at c6 HOV
 clear e
 obtain ⟨name,e⟩:∃ f,x.name=f:=⟨_,rfl⟩
 rw [e] at c7 HOV
 clear e
 obtain ⟨hold,e⟩:∃ f,x.hold=f:=⟨_,rfl⟩
 rw [e] at c8 HOV
 clear e
 obtain ⟨text,e⟩:∃ f,x.text=f:=⟨_,rfl⟩
 rw [e] at c11 HOV ht p3
 clear e
 obtain ⟨nc,e⟩:∃ f,x.codes.length=f:=⟨_,rfl⟩
 rw [e] at c0 HOV hb0
 clear e
 obtain ⟨na,e⟩:∃ f,x.args.length=f:=⟨_,rfl⟩
 rw [e] at c1 HOV hb1
 clear e
 obtain ⟨no,e⟩:∃ f,x.outs.length=f:=⟨_,rfl⟩
 rw [e] at c2 HOV hb2
 clear e
 obtain ⟨nf,e⟩:∃ f,x.frames.length=f:=⟨_,rfl⟩
 rw [e] at c3 HOV hb3
 clear e
 obtain ⟨nl,e⟩:∃ f,x.files.length=f:=⟨_,rfl⟩
 rw [e] at c12 HOV hb4 p4
 clear e
 have p0:=p0.out
 have p1:=p1.out
 have p2:=p2.out
 have p3:=p3.out
 have p4:=p4.out
 have b4:(fin == 0)=false:=by simpa using p1
 have b5:((nl:Int) == 0)=false:=by simp;omega
 have i3:(text.size:Int)≤3000:=by omega
 go_wp2
 go_ret
 exact ⟨says_f (fun h=>by have h2:=HOV.out.1 h;unfold OvP at h2;omega),HLO.out⟩
end Go.Proofs.YtbkmglknbflkhaaGreatDoor.M
namespace Go.Proofs.YtbkmglknbflkhaaGreatDoor.C
open Go.RowKit
set_option maxRecDepth 20000
theorem behind_bad {fns:List Fn} {f:Fn} {p:Nat} {sl sk:List Int} (h:takesN fns (f.ins.getD p in0)≤sk.length→eff fns f (f.ins.getD p in0) sl (sk.drop (sk.length - takesN fns (f.ins.getD p in0)))=none):behind fns f p ⟨1,sl,sk⟩=top:=by
 unfold behind
 split
 ·rename_i h1
  have:=h h1.2.1
  rw [this]
 ·rfl
theorem behind_out {fns:List Fn} {f:Fn} {p:Nat} {s:Sh} {g:Nat} (hg:g ∈ goes (f.ins.getD p in0) p) (h:¬ g < f.ins.length):behind fns f p s=top:=by
 unfold behind
 rw [if_neg]
 rintro ⟨_,_,h3⟩
 exact h (h3 g hg)
theorem behind_in {fns:List Fn} {f:Fn} {p:Nat} {sl sk l:List Int} (h1:takesN fns (f.ins.getD p in0)≤sk.length) (h2:∀ g ∈ goes (f.ins.getD p in0) p,g < f.ins.length) (h3:eff fns f (f.ins.getD p in0) sl (sk.drop (sk.length - takesN fns (f.ins.getD p in0)))=some l) :
  behind fns f p ⟨1,sl,sk⟩=if sk.length - takesN fns (f.ins.getD p in0)+l.length≤600 then ⟨1,if (f.ins.getD p in0).op=3 then sl.set (f.ins.getD p in0).a.toNat (sk.getLastD 0) else sl,sk.take (sk.length - takesN fns (f.ins.getD p in0)) ++ l⟩ else top:=by
 unfold behind
 rw [if_pos ⟨rfl,h1,h2⟩]
 dsimp only
 rw [h3]
theorem eff_few {fns:List Fn} {f:Fn} {i:In} {sl tk l:List Int} (h:eff fns f i sl tk=some l):l.length≤600:=by
 have hh:l.length≤1:=by
  have hopt:∀ t:Int,opt t=some l→l.length≤1:=fun t ht=>by rw [(opt_some ht).2];simp
  have hsome:∀ q:List Int,q.length≤1→some q=some l→l.length≤1:=fun q hq e=>by injection e with e;rw [← e];exact hq
  have hwhn:∀ (P:Prop) [Decidable P] (q:List Int),q.length≤1→whn P q=some l→l.length≤1:=fun P _ q hq e=>by rw [(whn_some e).2];exact hq
  unfold eff at h
  (repeat' split at h) <;> first | exact hopt _ h | exact hsome _ (by simp) h | exact hwhn _ _ (by simp) h | (refine hwhn _ _ ?_ h;split <;> simp)
 omega
set_option maxHeartbeats 4000000 in
theorem beh_1 {fns:List Fn} {f:Fn} {p:Nat} {sl sk:List Int} {w:World} {cv pv iv x y:Value} (h1:FnsRow w cv fns) (h2:IntRow w pv f.params) (h3:InsRow w iv f.ins) (h4:IntRow w x sl) (h5:IntRow w y sk) (hF:∀ g ∈ fns,FnR fns g) (hf:FnR fns f) (hp:p < f.ins.length) (hsl:(sl.length:Int)=f.slots) (hr:∀ x ∈ sk,1≤x∧x≤10) (hn:sk.length≤600) :
  Calls Tryz.prog 82 #[.agg #[cv],.agg #[.string f.name,pv,.int .i64 f.result,.int .i64 f.slots,iv],.int .i64 p,.agg #[.int .i64 1,x,y]] w (BehEnd fns f p ⟨1,sl,sk⟩ w):=by
 have hI:InsR fns f (f.ins.getD p in0):=hf.ins _ (by rw [List.getD_eq_getElem?_getD,List.getElem?_eq_getElem hp];exact List.getElem_mem hp)
 have H1:=hid h1
 have H2:=hid h2
 have H3:=hid h3
 have H4:=hid h4
 have H5:=hid h5
 have HF:=hid hF
 have HR:=hid hr
 have HSL:=hid hsl
 have hIL:f.ins.length≤50000:=hf.some_.2
 have hS:sl.length≤200:=by have:=hf.slots.2;omega
 obtain ⟨a0,c0,rfl⟩:=h1.sl
 obtain ⟨a1,c1,rfl⟩:=h2.sl
 obtain ⟨gI,cI,rfl,hgI,hcI⟩:=h3.at hp
 obtain ⟨a4,c4,rfl⟩:=h4.sl
 obtain ⟨a5,c5,rfl⟩:=h5.sl
 obtain ⟨d0,d1,d2,d3⟩:=hcI p hp
 have HBI:=hid (fun l h3 h4 h5=>behind_in (fns:=fns) (f:=f) (p:=p) (sl:=sl) (sk:=sk) (l:=l) h3 h4 h5)
 have HBO:=hid (fun g h3 h4=>behind_out (fns:=fns) (f:=f) (p:=p) (s:=⟨1,sl,sk⟩) (g:=g) h3 h4)
 have HBB:=hid (fun h3=>behind_bad (fns:=fns) (f:=f) (p:=p) (sl:=sl) (sk:=sk) h3)
 obtain ⟨i,hi⟩:∃ i,f.ins.getD p in0=i:=⟨_,rfl⟩
 rw [hi] at d0 d1 d2 d3 hI HBI HBO HBB
 have HI:=hid hI
 clear h1 h2 h3 h4 h5 hcI hi hI hF hf hr hsl
 obtain ⟨i0,hj,hz0,hz1,hz2⟩:=int_parts
 have HHI:=hid (And.intro hj (And.intro hz0 (And.intro hz1 hz2)))
 clear hj hz0 hz1 hz2
 have hpi:(p:Int) < (f.ins.length:Int):=by omega
 go_enter Tryz.func82,Tryz.ntmps82
 go_upto_region 1 with fail
 obtain ⟨t0,t1,t2,t3,hlo,hz⟩:=four w (.cells #[.slice a0 fns.length c0] 59) (fbox f (.slice a1 f.params.length c1) (.slice (some ⟨gI,0,none⟩) f.ins.length cI)) (sbox 1 (.slice a4 sl.length c4) (.slice a5 sk.length c5)) (sbox 0 (.slice none 0 0) (.slice none 0 0))
 obtain ⟨W4,hW4⟩:∃ W,((((w.alloc (.cells #[.slice a0 fns.length c0] 59)).alloc (fbox f (.slice a1 f.params.length c1) (.slice (some ⟨gI,0,none⟩) f.ins.length cI))).alloc (sbox 1 (.slice a4 sl.length c4) (.slice a5 sk.length c5))).alloc (sbox 0 (.slice none 0 0) (.slice none 0 0)))=W:=⟨_,rfl⟩
 rw [hW4] at t0 t1 t2 t3 hlo hz
 unfold fbox sbox at hW4
 rw [hW4]
 clear hW4
 have HB6:=hid (boxes6 f i w _ _ _ _ _ t0 t1 t2 t3 hlo hz)
 obtain ⟨v0,v1,v2,v3,v4⟩:=fx t1
 have d0:=(hlo.cell (p:=⟨gI,p * 4,none⟩) hgI).trans d0
 have d1:=(hlo.cell (p:=⟨gI,p * 4+1,none⟩) hgI).trans d1
 have d2:=(hlo.cell (p:=⟨gI,p * 4+2,none⟩) hgI).trans d2
 have d3:=(hlo.cell (p:=⟨gI,p * 4+3,none⟩) hgI).trans d3
 clear t0 t1 t2 t3 hlo
 go_upto_region 3 with fail
 obtain ⟨W6,hW6⟩:∃ W,(W4.alloc (ibox i)).alloc (sbox 2 (.slice none 0 0) (.slice none 0 0))=W:=⟨_,rfl⟩
 rw [hW6] at HB6
 unfold ibox sbox at hW6
 rw [hW6]
 clear hW6 hz d0 d1 d2 d3 v0 v1 v2 v3 v4
 obtain ⟨v0,v1,v2,v3,v4⟩:=fx HB6.out.e1
 obtain ⟨j0,j1,j2,j3⟩:=ix HB6.out.e4
 have k0:=cx HB6.out.e0
 obtain ⟨s0,s1,s2,_,_,_⟩:=six_s HB6.out.e2
 go_wp2_with fail
 refine (gives_any (H1.out.next HB6.out.lo) (H2.out.next HB6.out.lo) (H3.out.next HB6.out.lo) (H4.out.next HB6.out.lo) (H5.out.next HB6.out.lo) (by omega) HF.out HI.out HSL.out HR.out).mono ?_
 rintro e w7 ⟨hb7,k,ad,m,c,ok,rfl,hk,hcase⟩
 have HB7:=hid (HB6.out.next hb7)
 clear hb7 HB6 v0 v1 v2 v3 v4 j0 j1 j2 j3 k0 s0 s1 s2
 obtain ⟨v0,v1,v2,v3,v4⟩:=fx HB7.out.e1
 obtain ⟨j0,j1,j2,j3⟩:=ix HB7.out.e4
 obtain ⟨s0,s1,s2,_,_,_⟩:=six_s HB7.out.e2
 obtain ⟨r0,r1,r2,q0,q1,q2⟩:=six_s HB7.out.e3
 obtain ⟨x0,x1,x2,_,_,_⟩:=six_s HB7.out.e5
 rcases hcase with ⟨hko,hbad⟩ | ⟨rfl,hkt,hkl,l,hel,hrow⟩
 ·have HT:=hid (HBB.out hbad)
  clear hbad
  cases ok
  ·clear hko
   go_wp2
   exact bodyPost_ret (v:=.agg #[.int .i64 2,.slice none 0 0,.slice none 0 0]) (by simp [results,Tryz.results82,go_sem,r0,r1,r2]) rfl (beh_top HB7.out.lo (by omega) HT.out _ _ _)
  ·have hki:(sk.length:Int) < (k:Int):=by
    have:=hko.resolve_left (by simp)
    omega
   clear hko
   go_wp2
   exact bodyPost_ret (v:=.agg #[.int .i64 2,.slice none 0 0,.slice none 0 0]) (by simp [results,Tryz.results82,go_sem,r0,r1,r2]) rfl (beh_top HB7.out.lo (by omega) HT.out _ _ _)
 ·have hki:¬ (sk.length:Int) < (k:Int):=by omega
  have HKT:=hid hkt
  have HEL:=hid hel
  have HROW:=hid hrow
  clear hkt hel hrow
  go_wp2_with fail
  refine (goes_any i p _ (by omega) HI.out.op (fun h=>(HI.out.place h).1)).mono ?_
  rintro e w8 ⟨gv,rfl,hgr,hb8⟩
  have HB8:=hid (HB7.out.next hb8)
  have HGR:=hid hgr
  have HRW8:=hid (HROW.out.next hb8)
  obtain ⟨aG,cG,rfl⟩:=hgr.sl
  have hnl:(nums (goes i p)).length=(goes i p).length:=by simp [nums]
  have hg2:(goes i p).length≤2:=by unfold goes;(repeat' split) <;> simp
  rw [hnl]
  clear hgr hb8 HB7 HROW v0 v1 v2 v3 v4 j0 j1 j2 j3 s0 s1 s2 r0 r1 r2 q0 q1 q2 x0 x1 x2
  go_wp2_with fail
  go_loopw [15] (fun t wr=>∃ n:Nat,n≤(goes i p).length∧t=.int .i64 n∧Below w8.heap.size w8 wr∧∀ (j g:Nat),j < n→(goes i p)[j]?=some g→g < f.ins.length) (fun t _=>(goes i p).length - (intOf t).toNat)
  case atStart=>exact ⟨0,Nat.zero_le _,rfl,Below.refl _ _,fun j g hj=>absurd hj (Nat.not_lt_zero _)⟩
  case round =>
   obtain ⟨n,hnn,rfl,hbr,hall⟩:=hrel
   have HBR:=hid hbr
   have HALL:=hid hall
   have HB9:=hid (HB8.out.next hbr)
   clear hbr hall
   obtain ⟨v0,v1,v2,v3,v4⟩:=fx HB9.out.e1
   obtain ⟨r0,r1,r2,q0,q1,q2⟩:=six_s HB9.out.e3
   obtain ⟨x0,x1,x2,_,_,_⟩:=six_s HB9.out.e5
   by_cases hlt:n < (goes i p).length
   ·have hlti:(n:Int) < ((goes i p).length:Int):=by omega
    obtain ⟨gG,cG2,e9,_,_,_,hcG⟩:=(HGR.out.next HBR.out).at (i:=n) (by omega)
    injection e9 with ea _ ec
    subst ea ec
    obtain ⟨g,hg⟩:∃ g,(goes i p)[n]?=some g:=⟨_,List.getElem?_eq_getElem hlt⟩
    have kG:=hcG n (by omega)
    have hgg:(nums (goes i p)).getD n 0=(g:Int):=by simp [nums,List.getD_eq_getElem?_getD,hg]
    rw [hgg] at kG
    have HGM:=hid (List.mem_of_getElem? hg)
    have HGN:=hid hg
    clear hcG hgg hg
    by_cases hgl:g < f.ins.length
    ·have hgi:¬ (f.ins.length:Int)≤(g:Int):=by omega
     go_wp2_with fail
     go_quiet (fail)
     go_wp2
     go_roundw
     case rel =>
      refine ⟨n+1,by omega,by go_num,below_drewN HBR.out _,fun j g' hj hg'=>?_⟩
      by_cases e:j=n
      ·subst e
       rw [HGN.out] at hg'
       injection hg' with hg'
       omega
      ·exact HALL.out j g' (by omega) hg'
     case measure=>simp [intOf];omega
    ·have hgi:(f.ins.length:Int)≤(g:Int):=by omega
     have HT:=hid (HBO.out g HGM.out hgl)
     go_wp2_with fail
     go_quiet (fail)
     go_wp2
     exact bodyPost_ret (v:=.agg #[.int .i64 2,.slice none 0 0,.slice none 0 0]) (by simp [results,Tryz.results82,go_sem,r0,r1,r2]) rfl (beh_top (below_drewN HB9.out.lo _) (by omega) HT.out _ _ _)
   ·obtain rfl:n=(goes i p).length:=by omega
    have HBH:=hid (HBI.out l (by have:=HKT.out;omega) (fun g hg=>by obtain ⟨j,hj⟩:=List.getElem?_of_mem hg;exact HALL.out j g (List.getElem?_eq_some_iff.1 hj).1 hj) HEL.out)
    have HBH0:=HEL
    have HRW:=hid (HRW8.out.next HBR.out)
    clear HALL HBR HRW8 HB8 HGR HBO HBB HBI v0 v1 v2 v3 v4 r0 r1 r2 q0 q1 q2 x0 x1 x2
    have HBA:=hid (HB9.out.next ((Below.refl wr.heap.size wr).alloc (Nat.le_refl _) (.cells #[] 3)))
    obtain ⟨s0,s1,s2,_,_,_⟩:=six_s HBA.out.e2
    have hge:¬ (((goes i p).length:Int) < ((goes i p).length:Int)):=by omega
    go_upto_region 15 with (at_builtin;refine wpList_append_row rfl (.tmp 64) (.tmp 66) rfl wr.heap.size _ 0 [] rfl (lit_own wr) _ sl rfl (H4.out.next HBA.out.lo).part (by omega) (by simp) ?_;intro v1 w1 o1 g1;have HLO1:=hid (grown_lo ((Below.refl wr.heap.size wr).alloc (Nat.le_refl _) (.cells #[] 3)) (lit_own wr) (Nat.le_refl _) g1);have HO1:=hid o1;obtain ⟨ad1,cp1,hv1⟩:=own_form o1;rw [Nat.zero_add] at hv1;subst hv1;clear o1 g1)
    have HML:Hid (m=l.length):=hid (by obtain ⟨_,_,e,_⟩:=HRW.out;injection e with _ em _)
    have hml:=HML.out
    subst hml
    have hll:l.length≤600:=(eff_few HBH0.out)
    rw [Nat.zero_add,List.nil_append] at HO1
    have hw1z:=HLO1.out.size
    have HBW:Hid (Below w1.heap.size w1 (w1.alloc (sbox 1 (.slice ad1 sl.length cp1) (.slice none 0 0)))):=hid ((Below.refl _ _).alloc (Nat.le_refl _) _)
    have HEB:=hid (heap_alloc_new w1 (sbox 1 (.slice ad1 sl.length cp1) (.slice none 0 0)))
    have HO2:=hid (own_next HO1.out HBW.out)
    have HLO2:=hid (HLO1.out.trans (HBW.out.mono HLO1.out.size))
    have HBX2:=hid (HB9.out.next HLO2.out)
    have HRW2:=hid (HRW.out.next HLO2.out)
    have hw2z:w1.heap.size < (w1.alloc (sbox 1 (.slice ad1 sl.length cp1) (.slice none 0 0))).heap.size:=by simp
    obtain ⟨W2,hW2⟩:∃ W,w1.alloc (sbox 1 (.slice ad1 sl.length cp1) (.slice none 0 0))=W:=⟨_,rfl⟩
    rw [hW2] at HEB HO2 HLO2 HBX2 HRW2 hw2z
    unfold sbox at hW2
    rw [hW2]
    obtain ⟨b,hb⟩:∃ b,w1.heap.size=b:=⟨_,rfl⟩
    rw [hb] at HEB hw2z hw1z ⊢
    clear hW2 hb HBW HO1 HLO1 HRW HBA s0 s1 s2 HML
    have HAL:=hid ((Below.refl W2.heap.size W2).alloc (Nat.le_refl _) (.cells #[] 3))
    obtain ⟨s0,s1,s2,_,_,_⟩:=six_s (HBX2.out.next HAL.out).e2
    have hc5:sk.length≤c5:=by obtain ⟨_,_,e,h,_⟩:=H5.out;injection e with _ _ ec;omega
    have hwk:IntKind.i64.wrap ((sk.length:Int) - (k:Int))=((sk.length - k:Nat):Int):=by rw [IntKind.wrap_i64];omega
    have htk:(sk.take (sk.length - k)).length=sk.length - k:=by simp
    have hkc:sk.length - k≤c5:=by omega
    go_upto_region 16 with (first
     | (at_builtin;refine wpList_append_row rfl (.tmp 69) (.tmp 77) rfl W2.heap.size _ 0 [] rfl (lit_own W2) _ (sk.take (sk.length - k)) rfl (part_head (H5.out.next (HBX2.out.next HAL.out).lo) (by omega)) (by omega) (by simp) ?_;intro v2 w2 o2 g2;have HLG2:=hid (grown_lo HAL.out (lit_own W2) (Nat.le_refl _) g2);have HOV2:=hid o2;clear o2 g2)
     | (at_builtin;refine wpList_append_row rfl (.tmp 78) (.tmp 79) rfl W2.heap.size _ _ _ rfl HOV2.out _ l rfl (HRW2.out.next HLG2.out).part (by omega) HLG2.out.size ?_;intro v3 w3 o3 g3;have HLG3:=hid (grown_lo HLG2.out HOV2.out (Nat.le_refl _) g3);have HOV3:=hid o3;have HEB3:=hid (hp_next HEB.out HLG3.out);obtain ⟨z0,z1,z2,y0,y1,y2⟩:=six_s HEB3.out;obtain ⟨ad3,cp3,hv3⟩:=own_form o3;rw [Nat.zero_add,htk] at hv3;subst hv3;clear o3 g3))
    have HLO3:=hid (HLO2.out.trans (HLG3.out.mono HLO2.out.size))
    have HLT:=hid (fun g (h:Value.ownBlock (.slice ad1 sl.length cp1)=some g)=>(HO2.out.lt g h).2)
    have HLO4:=hid (set_lo HLO3.out b 2 (by omega) (.slice ad3 (sk.length - k+l.length) cp3))
    have HEB4:=hid (set2_box HEB3.out (.slice ad3 (sk.length - k+l.length) cp3))
    have HO4:=hid (own_setS (j:=2) (u:=(.slice ad3 (sk.length - k+l.length) cp3)) (own_next HO2.out HLG3.out) HEB3.out)
    have HV4:=hid (own_setS (j:=2) (u:=(.slice ad3 (sk.length - k+l.length) cp3)) HOV3.out HEB3.out)
    have HBX4:=hid (HB9.out.next HLO4.out)
    rw [Nat.zero_add,htk,List.nil_append,← List.map_append] at HV4
    obtain ⟨W4,hW4⟩:∃ W,w3.setCell ⟨b,2,none⟩ (.slice ad3 (sk.length - k+l.length) cp3)=W:=⟨_,rfl⟩
    rw [hW4] at HLO4 HEB4 HO4 HV4 HBX4 ⊢
    clear hW4 HLO3 HEB3 HOV3 HOV2 HLG2 HLG3 HLO2 HEB HO2 HBX2 HRW2 HAL s0 s1 s2 z0 z1 z2 y0 y1 y2 hw2z
    rw [← HKT.out] at HBH
    obtain ⟨z0,z1,z2,_,_,_⟩:=six_s HEB4.out
    obtain ⟨j0,j1,j2,j3⟩:=ix HBX4.out.e4
    obtain ⟨s0,s1,s2,_,_,_⟩:=six_s HBX4.out.e2
    obtain ⟨r0,r1,r2,q0,q1,q2⟩:=six_s HBX4.out.e3
    obtain ⟨x0,x1,x2,_,_,_⟩:=six_s HBX4.out.e5
    by_cases hN:sk.length - k+l.length≤600
    ·have hNi:¬ ((600:Int) < ((sk.length - k+l.length:Nat):Int)):=by omega
     have HBE:=hid (HBH.out.trans (if_pos hN))
     clear HBH
     by_cases hop:i.op=3
     ·have hof:(i.op == 3)=true:=by simpa using hop
      have HBF:=hid (HBE.out.trans (by rw [if_pos hop]))
      clear HBE
      have hsl9:=HI.out.slot (.inr hop)
      have hk1:1≤k:=by rw [HKT.out];simp [takesN,hop]
      have hsl8:=HSL.out
      obtain ⟨qa,hqa⟩:∃ q:Nat,i.a=q:=⟨i.a.toNat,by omega⟩
      have hqn:qa < sl.length:=by omega
      have hqi:(qa:Int) < (sl.length:Int):=by omega
      rw [hqa] at j1 HBF
      obtain ⟨g1,e1⟩:∃ g1,ad1=some ⟨g1,0,none⟩:=by
       obtain ⟨_,⟨e,h0⟩ | ⟨g1,cap,cur,e,_⟩⟩:=HO4.out
       ·omega
       ·injection e with e _ _
        exact ⟨g1,e⟩
      subst e1
      obtain ⟨gY,cY,e9,_,_,_,hcY⟩:=(H5.out.next HBX4.out.lo).at (i:=0) (by omega)
      injection e9 with ea _ ec
      subst ea ec
      have kY:=hcY (sk.length - 1) (by omega)
      rw [tp_at (by omega)] at kY
      have hw1':IntKind.i64.wrap ((sk.length:Int) - 1)=((sk.length - 1:Nat):Int):=by rw [IntKind.wrap_i64];omega
      have hl1':((sk.length - 1:Nat):Int) < (sk.length:Int):=by omega
      have hl2':sk.length - 1 < sk.length:=by omega
      have kF:=HO4.out.frozenAt qa
      have kC:=(HO4.out.cellAt qa (by omega)).trans (List.getElem?_eq_getElem (by simp;exact hqn))
      have HST:=hid (HO4.out.stored qa (.int .i64 (tp sk))).1.drew
      clear hcY hop hsl9 hsl8
      have hg1:g1 < W2.heap.size:=HLT.out g1 rfl
      obtain ⟨cur1,hcur1⟩:∃ cur,W4.heap[g1]?=some (.cells cur 3 (0,0)):=by
       obtain ⟨_,⟨e,h0⟩ | ⟨g9,cap,cur,e,_,hc,_⟩⟩:=HO4.out
       ·omega
       ·injection e with e _ _
        injection e with e
        injection e with e
        exact ⟨cur,by rw [e];exact hc⟩
      have hnb:¬ b=g1:=fun e=>by have h9:=HEB4.out;rw [e,hcur1] at h9;simp [sbox] at h9
      have hn3:¬ w.heap.size+1+1+1=g1:=fun e=>by have h9:=HBX4.out.e3;rw [e,hcur1] at h9;simp [sbox] at h9
      have hn4:¬ g1 < w.heap.size:=fun e=>by
       have h9:=(HO4.out.lt g1 rfl).1
       have h8:=HB9.out.lo.size
       omega
      have HE5:Hid ((W4.setCell ⟨g1,qa,none⟩ (.int .i64 (tp sk))).drew.heap[b]?=_):=hid ((set_other _ _ _ _ _ hnb).trans HEB4.out)
      have HR5:Hid ((W4.setCell ⟨g1,qa,none⟩ (.int .i64 (tp sk))).drew.heap[w.heap.size+1+1+1]?=_):=hid ((set_other _ _ _ _ _ hn3).trans HBX4.out.e3)
      have HLO5:=hid (set_lo HBX4.out.lo g1 qa (by omega) (.int .i64 (tp sk))).drew
      have HV5:=hid (own_set (j:=qa) (u:=.int .i64 (tp sk)) HV4.out hg1).drew
      go_wp2_with fail
      go_region
      obtain ⟨W5,hW5⟩:∃ W,(W4.setCell ⟨g1,qa,none⟩ (.int .i64 (tp sk))).drew=W:=⟨_,rfl⟩
      rw [hW5] at HE5 HR5 HLO5 HV5 HST ⊢
      clear hW5 z0 z1 z2 j0 j1 j2 j3 s0 s1 s2 r0 r1 r2 q0 q1 q2 x0 x1 x2 kY kF kC
      obtain ⟨z0,z1,z2,_,_,_⟩:=six_s HE5.out
      obtain ⟨r0,r1,r2,q0,q1,q2⟩:=six_s HR5.out
      go_wp2
      refine bodyPost_ret (v:=.agg #[.int .i64 1,.slice (some ⟨g1,0,none⟩) sl.length cp1,(.slice ad3 (sk.length - k+l.length) cp3)]) (by simp [results,Tryz.results82,go_sem,r0,r1,r2]) rfl ⟨_,rfl,?_,set_lo (set_lo (set_lo HLO5.out _ _ (by omega) _) _ _ (by omega) _) _ _ (by omega) _⟩
      rw [HBF.out]
      have ho:=HST.out
      rw [← List.map_set] at ho
      have hsz:sl.length=(sl.set qa (tp sk)).length:=by simp
      refine ⟨_,_,rfl,?_,?_⟩
      ·show IntRow _ _ (sl.set (qa:Int).toNat (tp sk))
       rw [Int.toNat_natCast]
       rw [hsz] at ho ⊢
       exact IntRow.set3 (IntRow.own ho) HR5.out _ _ _
      ·have hlen:(sk.take (sk.length - k) ++ l).length=sk.length - k+l.length:=by simp
       have hv:=HV5.out
       rw [← hlen] at hv ⊢
       exact IntRow.set3 (IntRow.own hv) HR5.out _ _ _
     ·have hof:(i.op == 3)=false:=by simpa using hop
      have HBF:=hid (HBE.out.trans (by rw [if_neg hop]))
      clear HBE hop
      go_wp2
      refine bodyPost_ret (v:=.agg #[.int .i64 1,(.slice ad1 sl.length cp1),(.slice ad3 (sk.length - k+l.length) cp3)]) (by simp [results,Tryz.results82,go_sem,r0,r1,r2]) rfl ⟨_,rfl,?_,set_lo (set_lo (set_lo HBX4.out.lo _ _ (by omega) _) _ _ (by omega) _) _ _ (by omega) _⟩
      rw [HBF.out]
      refine ⟨_,_,rfl,IntRow.set3 (IntRow.own HO4.out) HBX4.out.e3 _ _ _,?_⟩
      have hlen:(sk.take (sk.length - k) ++ l).length=sk.length - k+l.length:=by simp
      have hv:=HV4.out
      rw [← hlen] at hv ⊢
      exact IntRow.set3 (IntRow.own hv) HBX4.out.e3 _ _ _
    ·have hNi:(600:Int) < ((sk.length - k+l.length:Nat):Int):=by omega
     have HT:=hid (HBH.out.trans (if_neg hN))
     go_wp2
     exact bodyPost_ret (v:=.agg #[.int .i64 2,.slice none 0 0,.slice none 0 0]) (by simp [results,Tryz.results82,go_sem,r0,r1,r2]) rfl (beh_top HBX4.out.lo (by omega) HT.out _ _ _)
def PartA (W:World) (v:Value) (l:List Int):Prop:=∃ (ad:Option Addr) (c:Nat),v=.slice ad l.length c∧(l=[]∨∃ ka:Addr,ad=some ka∧ka.block < W.heap.size∧∀ i,i < l.length→W.cell? (ka.add i)=some (.int .i64 (l.getD i 0)))
theorem add_block (a:Addr) (i:Nat):(a.add i).block=a.block:=by
 unfold Addr.add
 split <;> rfl
theorem PartA.next {W V:World} {v:Value} {l:List Int} (h:PartA W v l) (hb:Below W.heap.size W V):PartA V v l:=by
 obtain ⟨ad,c,e,h1⟩:=h
 refine ⟨ad,c,e,?_⟩
 rcases h1 with h1 | ⟨ka,e1,e2,e3⟩
 ·exact .inl h1
 ·exact .inr ⟨ka,e1,Nat.lt_of_lt_of_le e2 hb.size,fun i hi=>(hb.cell (p:=ka.add i) (by rw [add_block];exact e2)).trans (e3 i hi)⟩
theorem PartA.sl {W:World} {v:Value} {l:List Int} (h:PartA W v l):∃ ad c,v=.slice ad l.length c:=by
 obtain ⟨ad,c,e,_⟩:=h
 exact ⟨ad,c,e⟩
theorem PartA.at {W:World} {v:Value} {l:List Int} (h:PartA W v l) {i:Nat} (hi:i < l.length):∃ ka c,v=.slice (some ka) l.length c∧W.cell? (ka.add i)=some (.int .i64 (l.getD i 0)):=by
 obtain ⟨ad,c,e,h1⟩:=h
 rcases h1 with h1 | ⟨ka,e1,e2,e3⟩
 ·rw [h1] at hi;exact absurd hi (Nat.not_lt_zero _)
 ·subst e1
  exact ⟨ka,c,e,e3 i hi⟩
def takesT (o:Nat):List Int:=if o=3∨o=4∨o=5 then [-2] else if o=6 then [-2,-2] else if o=7 then [-1] else if o=11 then [1] else if o=13∨o=15 then [2] else if o=14 then [2,2] else []
def putsT (o:Nat):Int:=if o=1∨o=7 then 1 else if o=2 then 2 else if o=5 then 3 else if o=6 then 4 else if o=8 then 5 else if o=9 then 6 else 0
def useT (o:Nat):Int:=if o=1 then 1 else if o=2∨o=3 then 2 else if o=5 then 3 else if o=6 then 4 else if o=7 then 5 else if o=8 then 6 else if o=9 then 7 else if o=10∨o=11 then 8 else if o=12 then 9 else 0
structure EnvI (W:World):Prop where
 lt1:0 < W.heap.size
 lt2:1 < W.heap.size
 rows:∀ o:Nat,1≤o→o≤16→∃ v,W.cell? ⟨0,o * 3,none⟩=some (.int .i64 (useT o))∧W.cell? ⟨0,o * 3+1,none⟩=some v∧W.cell? ⟨0,o * 3+2,none⟩=some (.int .i64 (putsT o))∧PartA W v (takesT o)
 signs:∀ k:Nat,1≤k→k≤12→∃ v,W.cell? ⟨1,k * 2,none⟩=some v∧W.cell? ⟨1,k * 2+1,none⟩=some (.int .i64 (sig k).2)∧PartA W v (sig k).1
theorem EnvI.next {W V:World} (h:EnvI W) (hb:Below W.heap.size W V):EnvI V:=by
 refine ⟨Nat.lt_of_lt_of_le h.lt1 hb.size,Nat.lt_of_lt_of_le h.lt2 hb.size,fun o h1 h2=>?_,fun k h1 h2=>?_⟩
 ·obtain ⟨v,a,b,c,d⟩:=h.rows o h1 h2
  exact ⟨v,(hb.cell (p:=⟨0,_,none⟩) h.lt1).trans a,(hb.cell (p:=⟨0,_,none⟩) h.lt1).trans b,(hb.cell (p:=⟨0,_,none⟩) h.lt1).trans c,d.next hb⟩
 ·obtain ⟨v,a,b,c⟩:=h.signs k h1 h2
  exact ⟨v,(hb.cell (p:=⟨1,_,none⟩) h.lt2).trans a,(hb.cell (p:=⟨1,_,none⟩) h.lt2).trans b,c.next hb⟩
structure MS (fns:List Fn) (f:Fn) (b:Nat) (cv pv iv xv wv:Value) (W:World):Prop where
 e:W.heap[b]?=some (.cells #[cv,.string f.name,pv,.int .i64 f.result,.int .i64 f.slots,iv,xv,wv] 177)
 fr:FnsRow W cv fns
 pr:IntRow W pv f.params
 ir:InsRow W iv f.ins
theorem MS.next {fns:List Fn} {f:Fn} {b:Nat} {cv pv iv xv wv:Value} {W V:World} (h:MS fns f b cv pv iv xv wv W) (hb:Below W.heap.size W V):MS fns f b cv pv iv xv wv V:=⟨hp_next h.e hb,h.fr.next hb,h.pr.next hb,h.ir.next hb⟩
theorem MS.lt {fns:List Fn} {f:Fn} {b:Nat} {cv pv iv xv wv:Value} {W:World} (h:MS fns f b cv pv iv xv wv W):b < W.heap.size:=lt_hp h.e
theorem mx {fns:List Fn} {f:Fn} {b:Nat} {cv pv iv xv wv:Value} {W:World} (h:MS fns f b cv pv iv xv wv W) :
  W.cell? ⟨b,0,none⟩=some cv∧W.cell? ⟨b,1,none⟩=some (.string f.name)∧W.cell? ⟨b,2,none⟩=some pv∧W.cell? ⟨b,3,none⟩=some (.int .i64 f.result)∧W.cell? ⟨b,4,none⟩=some (.int .i64 f.slots)∧W.cell? ⟨b,5,none⟩=some iv∧W.cell? ⟨b,6,none⟩=some xv∧W.cell? ⟨b,7,none⟩=some wv:=by
 have e:=h.e
 refine ⟨?_,?_,?_,?_,?_,?_,?_,?_⟩ <;> simp [World.cell?,e]
theorem takesN_T {fns:List Fn} {i:In} {o:Nat} (ho:i.op=o) (h8:¬ o=8) (h9:¬ o=9) (h12:¬ o=12) (h1:1≤o) (h16:o≤16):takesN fns i=(takesT o).length:=by
 unfold takesN
 rw [ho]
 obtain rfl | rfl | rfl | rfl | rfl | rfl | rfl | rfl | rfl | rfl | rfl | rfl | rfl:o=1∨o=2∨o=3∨o=4∨o=5∨o=6∨o=7∨o=10∨o=11∨o=13∨o=14∨o=15∨o=16:=by omega
 all_goals rfl
theorem ibox_new (w:World) (i:In):(w.alloc (ibox i)).heap[w.heap.size]?=some (ibox i):=heap_alloc_new _ _
set_option maxHeartbeats 2000000 in
theorem takenBy_any {fns:List Fn} {f:Fn} {b:Nat} {cv pv iv xv wv:Value} {w:World} (hM:MS fns f b cv pv iv xv wv w) (hE:EnvI w) {i:In} (hi:InsR fns f i) :
  Calls Tryz.prog 167 #[.pointer (some ⟨b,0,none⟩),inV i] w fun e w'=>e=.returned (.int .i64 (takesN fns i:Nat))∧Below w.heap.size w w':=by
 have HLO:Hid (Below w.heap.size w (w.alloc (ibox i))):=hid ((Below.refl _ _).alloc (Nat.le_refl _) _)
 have HM:=hid (hM.next HLO.out)
 have HE:=hid (hE.next HLO.out)
 have HI:=hid hi
 obtain ⟨j0,j1,j2,j3⟩:=ix (ibox_new w i)
 obtain ⟨m0,m1,m2,m3,m4,m5,m6,m7⟩:=mx HM.out
 obtain ⟨op,a,n,tx⟩:=i
 have hop:=hi.op
 dsimp only at hop j0 j1 j2 j3
 clear hM hE hi
 unfold inV
 dsimp only
 go_enter Tryz.func167,Tryz.ntmps167
 go_upto_region 1 with fail
 obtain ⟨W1,hW1⟩:∃ W,w.alloc (ibox ⟨op,a,n,tx⟩)=W:=⟨_,rfl⟩
 rw [hW1] at HLO HM HE j0 j1 j2 j3 m0 m1 m2 m3 m4 m5 m6 m7
 unfold ibox at hW1
 rw [hW1]
 clear hW1
 by_cases h8:op=8
 ·subst h8
  have hb:=HI.out.built rfl
  dsimp only at hb
  obtain ⟨k,rfl⟩:∃ k:Nat,a=k:=⟨a.toNat,by omega⟩
  have HN:Hid (takesN fns ⟨8,(k:Int),n,tx⟩=(sig k).1.length):=hid (by simp [takesN])
  obtain ⟨v,s0,s1,s2⟩:=HE.out.signs k (by omega) (by omega)
  obtain ⟨ad,c,rfl⟩:=s2.sl
  have hki:(k:Int) < 13:=by omega
  have hkn:k < 13:=by omega
  clear hb s2
  go_wp2_with fail
  go_ret
  exact ⟨by rw [HN.out];rfl,HLO.out⟩
 ·have e8:(op == 8)=false:=by simpa using h8
  by_cases h9:op=9
  ·subst h9
   have hb:=HI.out.call rfl
   dsimp only at hb
   obtain ⟨k,rfl⟩:∃ k:Nat,a=k:=⟨a.toNat,by omega⟩
   have hk:k < fns.length:=by omega
   have HN:Hid (takesN fns ⟨9,(k:Int),n,tx⟩=(fns.getD k fn0).params.length):=hid (by simp [takesN])
   obtain ⟨gF,cF2,hcv,hgF,pv2,iv2,n0,n1,n2,n3,n4,hpv,_⟩:=HM.out.fr.at hk
   obtain ⟨aP,cP,rfl⟩:=hpv.sl
   rw [hcv] at m0
   have hki:(k:Int) < (fns.length:Int):=by omega
   obtain ⟨L,hL⟩:∃ L,(fns.getD k fn0).params.length=L:=⟨_,rfl⟩
   rw [hL] at n1 HN
   clear hb hpv hL n0 n2 n3 n4 h8 hcv
   go_wp2_with fail
   go_quiet (fail)
   go_wp2
   go_ret
   exact ⟨by rw [HN.out];rfl,below_drewN HLO.out _⟩
  ·have e9:(op == 9)=false:=by simpa using h9
   by_cases h12:op=12
   ·subst h12
    have hb:=HI.out.ret rfl
    dsimp only at hb
    obtain ⟨k,rfl⟩:∃ k:Nat,a=k:=⟨a.toNat,by omega⟩
    have HN:Hid (takesN fns ⟨12,(k:Int),n,tx⟩=k):=hid (by simp [takesN])
    clear hb
    go_wp2_with fail
    go_ret
    exact ⟨by rw [HN.out];rfl,HLO.out⟩
   ·have e12:(op == 12)=false:=by simpa using h12
    obtain ⟨o,rfl⟩:∃ o:Nat,op=o:=⟨op.toNat,by omega⟩
    have ho1:1≤o:=by omega
    have ho2:o≤16:=by omega
    have HN:=hid (takesN_T (fns:=fns) (i:=⟨(o:Int),a,n,tx⟩) (o:=o) rfl (by omega) (by omega) (by omega) ho1 ho2)
    obtain ⟨v,s0,s1,s2,s3⟩:=HE.out.rows o ho1 ho2
    obtain ⟨ad,c,rfl⟩:=s3.sl
    have hoi:(o:Int) < 17:=by omega
    have hon:o < 17:=by omega
    clear h8 h9 h12 s0 s2 s3
    go_wp2_with fail
    go_ret
    exact ⟨by rw [HN.out];rfl,HLO.out⟩
end Go.Proofs.YtbkmglknbflkhaaGreatDoor.C
