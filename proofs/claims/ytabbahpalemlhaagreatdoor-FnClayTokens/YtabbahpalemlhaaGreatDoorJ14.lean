import Derived.Deep.RegionHeld3
import Derived.Test.YtabbahpalemlhaaGreatDoorJ13
namespace Go.Proofs.YtabbahpalemlhaaGreatDoor
open Go.RowKit
set_option maxRecDepth 20000
theorem fnRow_get (fs:List Fn) (i:Nat) (h:i < fs.length):(fnRow fs)[i * 4]?=some (.string fs[i].name)∧(fnRow fs)[i * 4+1]?=some (.slice fs[i].pad fs[i].pn fs[i].pc)∧(fnRow fs)[i * 4+2]?=some (.int .i64 fs[i].free)∧(fnRow fs)[i * 4+3]?=some (.int .i64 fs[i].kind):=by
 induction fs generalizing i with
 | nil=>simp at h
 | cons x fs ih =>
  cases i with
  | zero=>exact ⟨rfl,rfl,rfl,rfl⟩
  | succ i =>
   have:=ih i (by simpa using h)
   rw [show (i+1) * 4=i * 4+4 by omega]
   exact ⟨this.1,this.2.1,this.2.2.1,this.2.2.2⟩
def CallEnd (s:Gs) (K C:Nat) (w:World) (e:Ending) (w2:World):Prop:=(∃ g n c,e=.returned (.tuple #[.slice (some ⟨g,0,none⟩) n c,.bool true])∧Has K w2 (.slice (some ⟨g,0,none⟩) n c)∧At s C w w2)∨∃ g c,e=.returned (.tuple #[.slice (some ⟨g,0,none⟩) 0 c,.bool false])∧At s 3 w w2
theorem Parts.one {w W:World} {v:Value} {K:Nat} (hv:Has K W v) (hw:w.heap.size≤W.heap.size):Parts w (W.alloc (.cells #[v] 48)) (.slice (some ⟨W.heap.size,0,none⟩) 1 1) 1 K:=by
 obtain ⟨l,h1,h2⟩:=hv
 refine ⟨[v],[l],rfl,⟨rfl,.inr ⟨W.heap.size,1,#[v],rfl,hw,heap_alloc_new W _,Nat.le_refl _,by unfold maxLen;omega,rfl,rfl⟩⟩,rfl,fun j u l' hu hl=>?_,by simpa using h2⟩
 match j,hu,hl with
 | 0,hu,hl=>cases hu;cases hl;exact h1.next ((Below.refl _ _).alloc (Nat.le_refl _) _)
theorem Parts.sl {w W:World} {v:Value} {n N:Nat} (h:Parts w W v n N) (hn:0 < n):∃ g c,v=.slice (some ⟨g,0,none⟩) n c:=by
 obtain ⟨xs,ls,h1,h2,_⟩:=h
 rcases h2.2 with ⟨_,h0⟩ | ⟨g,cap,cur,e,_⟩
 ·omega
 ·exact ⟨g,cap,e⟩
set_option maxHeartbeats 16000000 in
theorem call_root {d:Int} {K Ce:Nat} (he:EOk (d - 1) K Ce) (hK:K≤10000) (hd:1≤d) (hd2:d≤10) (kind:Int) (s:Gs) (w:World) (h:GenAt s.R s.G s.R w s.ns s.fs s.c s.sz s.p) (hr:Room (3 * Ce+60) s) :
  Calls Tryz.prog 95 #[.pointer (some ⟨s.G,0,none⟩),.int .i64 kind,.int .i64 d] w (CallEnd s (3 * K+6) (3 * Ce+3) w):=by
 obtain ⟨R,G,ns,fs,c0,sz0,p0⟩:=s
 simp only at h ⊢
 have HE:=hid he
 have HA0:=hid (At.refl (s:=⟨R,G,ns,fs,c0,sz0,p0⟩) h)
 have HR:=hid hr
 have hnf:fs.length≤1000:=hr.f
 obtain ⟨vn,vf,g1,g2,g3⟩:=h.ex
 have x0:=cell_hp g1 0
 have x2:=cell_hp g1 2
 simp at x0 x2
 obtain ⟨an,cn,rfl⟩:=own_sl g3
 obtain ⟨i0,hi0,hz0,hz1,hz2⟩:=info_parts info_ns
 have HHI:=hid (And.intro hi0 (And.intro hz0 (And.intro hz1 hz2)))
 clear hi0 hz0 hz1 hz2
 have HFO:Hid (∀ f ∈ fs,f.name.size≤100∧f.pn≤3∧f.free≤f.pn):=fun f hf=>⟨(h.fok f hf).1,(h.fok f hf).2.1,(h.fok f hf).2.2.1⟩
 clear he hr g1 g2 g3 h
 go_enter Tryz.func95,Tryz.ntmps95
 go_wp2_with fail
 refine (pick_at HA0.out (HR.out.sub (by omega)) (fs.length:Int) (by omega)).mono ?_
 rintro e w1 ⟨x,rfl,hx,at1,gk1⟩
 have HA1:=hid at1
 have HXB:=hid hx
 clear hx at1 gk1 x0 x2
 go_wp2
 go_loopw [10] (fun a wr=>∃ i:Nat,i≤fs.length∧a=.int .i64 i∧Below w1.heap.size w1 wr) (fun a _=>fs.length - (intOf a).toNat)
 case atStart=>exact ⟨0,Nat.zero_le _,rfl,Below.refl _ _⟩
 case round =>
  obtain ⟨i,hi,rfl,hb⟩:=hrel
  have HB:=hid hb
  have HAR:=hid (HA1.out.next hb)
  clear hb
  by_cases hlt:i < fs.length
  ·obtain ⟨p',c',sz',_,_,_,_,_,_,hgen,_⟩:=HAR.out
   simp only at hgen
   obtain ⟨un,uf,g1,g2,g3⟩:=hgen.ex
   have hxn:x < fs.length:=by have:=HXB.out;omega
   obtain ⟨gn,cap,cur,rfl,hcur,hgn,htk⟩:∃ gn cap cur,uf=.slice (some ⟨gn,0,none⟩) fs.length cap∧fs.length≤cap∧wr.heap[gn]?=some (.cells cur 129 (0,0))∧cur.toList.take (fs.length * 4)=fnRow fs:=by
    rcases g3.2 with ⟨_,hz⟩ | ⟨gn,cap,cur,hv,_,hg,hc,_,_,ht⟩
    ·omega
    ·exact ⟨gn,cap,cur,hv,hc,hg,ht⟩
   obtain ⟨q,hq⟩:∃ q,(x+i) % fs.length=q:=⟨_,rfl⟩
   have hqn:q < fs.length:=by rw [← hq];exact Nat.mod_lt _ (by omega)
   have hrem:((x:Int)+i).tmod fs.length=(q:Int):=by
    rw [Int.tmod_eq_emod_of_nonneg (by omega),← hq,Int.natCast_emod,Int.natCast_add]
   have hfn:=fnRow_get fs q hqn
   have hcell:∀ j u,(fnRow fs)[j]?=some u→wr.cell? ⟨gn,j,none⟩=some u:=fun j u hu=>by
    rw [← htk] at hu
    have hj:=(List.getElem?_eq_some_iff.1 hu).1
    rw [List.length_take] at hj
    rw [List.getElem?_take_of_lt (by omega)] at hu
    unfold World.cell?
    rw [hgn]
    simpa using hu
   have k0:=hcell _ _ hfn.1
   have k1:=hcell _ _ hfn.2.1
   have k2:=hcell _ _ hfn.2.2.1
   have k3:=hcell _ _ hfn.2.2.2
   have d2:=cell_hp g1 2
   simp at d2
   have hw:IntKind.i64.wrap ((x:Int)+i)=(x:Int)+i:=by rw [IntKind.wrap_i64];omega
   have hGl:=(Array.getElem?_eq_some_iff.1 g1).1
   have hgl:=(Array.getElem?_eq_some_iff.1 hgn).1
   have HFQ:=hid (HFO.out fs[q] (List.getElem_mem hqn))
   have HMEM:Hid (fs[q] ∈ fs):=List.getElem_mem hqn
   obtain ⟨F,hF⟩:∃ F,fs[q]=F:=⟨_,rfl⟩
   rw [hF] at k0 k1 k2 k3 HFQ HMEM
   have HAL:=(Below.refl wr.heap.size wr).alloc (Nat.le_refl _) (.cells #[.string ⟨#[]⟩,.slice none 0 0,.int .i64 0,.int .i64 0] 129)
   have a0:(wr.alloc (.cells #[.string ⟨#[]⟩,.slice none 0 0,.int .i64 0,.int .i64 0] 129)).drew.cell? ⟨G,2,none⟩=_:=(HAL.cell (p:=⟨G,2,none⟩) hGl).trans d2
   have a1:(wr.alloc (.cells #[.string ⟨#[]⟩,.slice none 0 0,.int .i64 0,.int .i64 0] 129)).drew.cell? ⟨gn,q * 4,none⟩=_:=(HAL.cell (p:=⟨gn,q * 4,none⟩) hgl).trans k0
   have a2:(wr.alloc (.cells #[.string ⟨#[]⟩,.slice none 0 0,.int .i64 0,.int .i64 0] 129)).drew.cell? ⟨gn,q * 4+1,none⟩=_:=(HAL.cell (p:=⟨gn,q * 4+1,none⟩) hgl).trans k1
   have a3:(wr.alloc (.cells #[.string ⟨#[]⟩,.slice none 0 0,.int .i64 0,.int .i64 0] 129)).drew.cell? ⟨gn,q * 4+2,none⟩=_:=(HAL.cell (p:=⟨gn,q * 4+2,none⟩) hgl).trans k2
   have a4:(wr.alloc (.cells #[.string ⟨#[]⟩,.slice none 0 0,.int .i64 0,.int .i64 0] 129)).drew.cell? ⟨gn,q * 4+3,none⟩=_:=(HAL.cell (p:=⟨gn,q * 4+3,none⟩) hgl).trans k3
   obtain ⟨nm,pad,pn,pc,fr,kd⟩:=F
   simp only at k0 k1 k2 k3 a1 a2 a3 a4 HFQ
   clear hcell hfn htk hgn g1 g2 g3 hq HAL hF hgen
   go_wp2_with fail
   go_region
   have HBX:Hid (Below w1.heap.size w1 (wr.alloc (.cells #[.string nm,.slice pad pn pc,.int .i64 fr,.int .i64 kd] 129)).drew):=(HB.out.alloc HB.out.size _).drew
   -- BEGIN
   obtain ⟨kb,hkbb⟩:∃ kb,wr.heap.size=kb:=⟨_,rfl⟩
   have HAB:=hid (HA1.out.next HBX.out)
   have HXB0:Hid ((wr.alloc (.cells #[.string nm,.slice pad pn pc,.int .i64 fr,.int .i64 kd] 129)).drew.heap[kb]?=some (.cells #[.string nm,.slice pad pn pc,.int .i64 fr,.int .i64 kd] 129 (0,0))):=by
    show _=_
    rw [← hkbb]
    exact heap_alloc_new wr _
   have hpn:pn≤3:=HFQ.out.2.1
   have hfr:fr≤pn:=HFQ.out.2.2
   have hnm:nm.size≤100:=HFQ.out.1
   clear a0 a1 a2 a3 a4 k0 k1 k2 k3 d2 hrem hw
   by_cases hkk:kd=kind
   ·have hkc:(kd != kind)=false:=by simpa using hkk
    obtain ⟨W0,hW0⟩:∃ W0,(wr.alloc (.cells #[.string nm,.slice pad pn pc,.int .i64 fr,.int .i64 kd] 129)).drew=W0:=⟨_,rfl⟩
    rw [hW0,hkbb]
    rw [hW0] at HAB HXB0
    clear hW0 hkbb HBX HB
    have b0:=cell_hp HXB0.out 0
    have b3:=cell_hp HXB0.out 3
    simp at b0 b3
    go_wp2_with fail
    refine (name_at HAB.out nm (by omega)).mono ?_
    rintro e w2 hh
    obtain ⟨g2,n2,m2,rfl,l2,at2,gk2⟩:=hh.get
    have HX2:=hid ((gk2.block _ _ _ _ HXB0.out (by unfold GenT;decide)).trans HXB0.out)
    have hal:=(Below.refl w2.heap.size w2).alloc (Nat.le_refl _) (.cells #[.slice (some ⟨g2,0,none⟩) n2 m2] 48)
    have HP2:=hid (Parts.one (w:=w) l2 at2.gk.size)
    have HA2:=hid (at2.next hal)
    have HX2b:=hid ((hal.block _ (Array.getElem?_eq_some_iff.1 HX2.out).1).trans HX2.out)
    obtain ⟨W2,hW2⟩:∃ W2,w2.alloc (.cells #[.slice (some ⟨g2,0,none⟩) n2 m2] 48)=W2:=⟨_,rfl⟩
    have hW2s:w2.heap.size+1=W2.heap.size:=by rw [← hW2];simp
    rw [hW2] at HP2 HA2 HX2b
    clear hh l2 at2 gk2 hal b0 b3
    have b1:=cell_hp HX2b.out 1
    have b2:=cell_hp HX2b.out 2
    simp at b1 b2
    have hG0:=HA2.out.g0
    by_cases hf0:fr=0
    ·have hfi:¬ (0:Int) < (fr:Int):=by omega
     go_wp2_with fail
     refine (pick_at HA2.out (HR.out.sub (by omega)) 2 (by omega)).mono ?_
     rintro e w9 ⟨x9,rfl,hx9,at9,gk9⟩
     obtain ⟨gv,hgv⟩:∃ gv:Nat,pn=gv:=⟨_,rfl⟩
     have hgvp:gv≤pn:=by omega
     rw [hgv]
     clear b1 b2 hG0
     have HA9:=hid at9
     have HP9:=hid (HP2.out.gk gk9)
     have HX9:=hid ((gk9.block _ _ _ _ HX2b.out (by unfold GenT;decide)).trans HX2b.out)
     have hx9':x9≤1:=by omega
     obtain ⟨bv,hbv⟩:∃ bv:Int,(gv:Int) - x9=bv:=⟨_,rfl⟩
     have hbw:IntKind.i64.wrap ((gv:Int) - x9)=(gv:Int) - x9:=by rw [IntKind.wrap_i64];omega
     clear hx9 at9 gk9
     go_wp2
     go_loopw [12,15] (fun pv c wi=>∃ t:Nat,t≤gv∧c=.int .i64 t∧Parts w wi pv (1+t) (1+t * (K+1))∧At ⟨R,G,ns,fs,c0,sz0,p0⟩ (0+1+1+t * Ce) w wi∧wi.heap[kb]?=some (.cells #[.string nm,.slice pad pn pc,.int .i64 fr,.int .i64 kd] 129 (0,0))) (fun _ c _=>gv - (intOf c).toNat)
     case atStart=>exact ⟨0,Nat.zero_le _,rfl,by simpa using HP9.out,by simpa using HA9.out,HX9.out⟩
     case round =>
      obtain ⟨t,ht,rfl,hp,ha,hbx⟩:=hrel
      have HPT:=hid hp
      have HAT:=hid ha
      have HBT:=hid hbx
      obtain ⟨gp,cp,rfl⟩:=hp.sl (by omega)
      clear hp ha
      have htc:t * Ce≤3 * Ce:=Nat.mul_le_mul_right _ (by omega)
      have htk:t * (K+1)≤3 * (K+1):=Nat.mul_le_mul_right _ (by omega)
      by_cases htl:t < gv
      ·have q1:=cell_hp hbx 1
       simp at q1
       obtain ⟨gq,kq,rfl,hkq⟩:∃ (gq:Nat) (kq:Int),pad=some ⟨gq,0,none⟩∧wr.cell? ⟨gq,t,none⟩=some (.int .i64 kq):=by
        obtain ⟨p1,c1,sz1,_,_,_,_,_,_,hgn,_⟩:=HAT.out
        obtain ⟨_,_,_,hq⟩:=hgn.fok _ HMEM.out
        rcases hq with hq | ⟨gq,cur,e1,e2,e3⟩
        ·simp only at hq;omega
        ·obtain ⟨k,hk⟩:=e3 t (by simp only;omega)
         exact ⟨gq,k,e1,(cell_hp e2 t).trans hk⟩
       have ht3:t≤2:=by omega
       have htc2:t * Ce≤2 * Ce:=Nat.mul_le_mul_right _ ht3
       have htk2:t * (K+1)≤2 * (K+1):=Nat.mul_le_mul_right _ ht3
       have htp:t < pn:=by omega
       have hti:(t:Int) < pn:=by omega
       go_wp2_with fail
       refine (e_at HE.out HAT.out (HR.out.sub (by omega)) kq).mono ?_
       rintro e w3 hh
       obtain ⟨g3,n3,k3,rfl,l3,at3,gk3⟩:=hh.get
       have HL3:=hid l3
       have HA3:=hid at3
       have HP3:=hid (HPT.out.gk gk3)
       have HX3:=hid ((gk3.block _ _ _ _ HBT.out (by unfold GenT;decide)).trans HBT.out)
       clear hh l3 at3 gk3 q1 hkq hbx
       by_cases hby:(t:Int) < bv
       ·have hby2:¬ bv≤(t:Int):=by omega
        obtain ⟨xs,ls,e1,e2,e3,e4,e5⟩:=HP3.out
        have HO:=hid e2
        have HL0:=hid (And.intro e1 (And.intro e3 (And.intro e4 e5)))
        have hws:w.heap.size≤w3.heap.size:=HA3.out.gk.size
        clear e1 e2 e3 e4 e5
        go_wp2_with (at_builtin;refine wpList_append_own _ rfl _ _ 93 rfl w.heap.size 48 i0 (.slice none 0 0) 1 24 Tryz.underlying93 HHI.out.1 HHI.out.2.1 HHI.out.2.2.1 HHI.out.2.2.2 rfl (by decide) _ _ _ rfl (HO.out.alloc _) ⟨w3.heap.size,0,none⟩ 1 1 [.slice (some ⟨g3,0,none⟩) n3 k3] rfl rfl ?c1 ?c2 ?c3 ?c4 ?c5 ?_)
        case c1 =>
         intro j u hj
         match j,hj with
         | 0,hj=>simp at hj;subst hj;rw [add_none,cell_new_row];rfl
        case c2=>intro u hu;simp at hu;subst hu;rfl
        case c3=>unfold maxLen;omega
        case c4=>omega
        case c5=>simp;omega
        intro v7 w7 o7 g7 _
        have hal:=(Below.refl w3.heap.size w3).alloc (Nat.le_refl _) (.cells #[.slice (some ⟨g3,0,none⟩) n3 k3] 48)
        have HM:=hid (Parts.more HL0.out.1 HL0.out.2.1 (fun j u l hu hll=>(HL0.out.2.2.1 j u l hu hll).next hal) HL0.out.2.2.2 (HL3.out.gk (HA3.out.gk_next hal)) (HA3.out.next hal) (HO.out.alloc _) g7 o7)
        have HX7:Hid (w7.heap[kb]?=_):=(g7.block _ (by simp;have:=(Array.getElem?_eq_some_iff.1 HX3.out).1;omega) (fun e=>by
         rcases HO.out.2 with ⟨e0,_⟩ | ⟨go,co,cu,e0,_,e2,_⟩
         ·rw [e0] at e;simp [Value.ownBlock] at e
         ·rw [e0] at e
          simp only [Value.ownBlock,Option.some.injEq] at e
          subst e
          have:=HX3.out
          rw [e2] at this
          cases this)).trans ((Below.heap_alloc _ _ _ (Array.getElem?_eq_some_iff.1 HX3.out).1).trans HX3.out)
        obtain ⟨av,cv,rfl⟩:=own_sl o7
        clear o7 g7 hal
        go_wp2
        go_roundw
        case rel =>
         refine ⟨t+1,by omega,by go_num,?_,?_,HX7.out⟩
         ·have h:=HM.out.2
          rw [show 1+(t+1)=1+t+1 by omega]
          obtain ⟨x1,x2,y1,y2,y3,y4,y5⟩:=h
          exact ⟨x1,x2,y1,y2,y3,y4,y5.mono (by rw [Nat.add_mul];omega)⟩
         ·exact HM.out.1.mono (by rw [Nat.add_mul];omega)
        case measure=>simp [intOf];omega
       ·have hby2:bv≤(t:Int):=by omega
        have HD:Hid (∀ W,Calls Tryz.prog 20 #[.int .i64 (t:Int)] W fun e w'=>∃ s:ByteArray,e=.returned (.string s)∧s.size≤18∧Below W.heap.size W w'):=fun W=>l1Dec_any 17 t W (by omega) (by omega)
        go_wp2_with fail
        refine (HD.out _).mono ?_
        rintro e w4 ⟨tx,rfl,htx,hb4⟩
        have HA4:=hid (HA3.out.next hb4)
        have HP4:=hid (HP3.out.gk (HA3.out.gk_next hb4))
        have HX4:=hid ((hb4.block _ (Array.getElem?_eq_some_iff.1 HX3.out).1).trans HX3.out)
        have HL4:=hid (HL3.out.gk (HA3.out.gk_next hb4))
        clear hb4
        go_wp2_with fail
        have hts0:((⟨#[112]⟩:ByteArray) ++ tx).size≤1000:=by rw [ByteArray.size_append];show 1+tx.size≤1000;omega
        generalize (⟨#[112]⟩:ByteArray) ++ tx=ts at hts0 ⊢
        refine (over1_at HA4.out ⟨18,0,0,ts,0⟩ _ HL4.out hts0 (by omega)).mono ?_
        rintro e w5 hh
        obtain ⟨g5,n5,k5,rfl,l5,at5,gk5⟩:=hh.get
        have HL5:=hid l5
        have HA5:=hid at5
        have HP5:=hid (HP4.out.gk gk5)
        have HX5:=hid ((gk5.block _ _ _ _ HX4.out (by unfold GenT;decide)).trans HX4.out)
        clear hh l5 at5 gk5
        obtain ⟨xs,ls,e1,e2,e3,e4,e5⟩:=HP5.out
        have HO:=hid e2
        have HL0:=hid (And.intro e1 (And.intro e3 (And.intro e4 e5)))
        have hws:w.heap.size≤w5.heap.size:=HA5.out.gk.size
        clear e1 e2 e3 e4 e5
        go_wp2_with (at_builtin;refine wpList_append_own _ rfl _ _ 93 rfl w.heap.size 48 i0 (.slice none 0 0) 1 24 Tryz.underlying93 HHI.out.1 HHI.out.2.1 HHI.out.2.2.1 HHI.out.2.2.2 rfl (by decide) _ _ _ rfl (HO.out.alloc _) ⟨w5.heap.size,0,none⟩ 1 1 [.slice (some ⟨g5,0,none⟩) n5 k5] rfl rfl ?c1 ?c2 ?c3 ?c4 ?c5 ?_)
        case c1 =>
         intro j u hj
         match j,hj with
         | 0,hj=>simp at hj;subst hj;rw [add_none,cell_new_row];rfl
        case c2=>intro u hu;simp at hu;subst hu;rfl
        case c3=>unfold maxLen;omega
        case c4=>omega
        case c5=>simp;omega
        intro v7 w7 o7 g7 _
        have hal:=(Below.refl w5.heap.size w5).alloc (Nat.le_refl _) (.cells #[.slice (some ⟨g5,0,none⟩) n5 k5] 48)
        have HM:=hid (Parts.more HL0.out.1 HL0.out.2.1 (fun j u l hu hll=>(HL0.out.2.2.1 j u l hu hll).next hal) HL0.out.2.2.2 (HL5.out.gk (HA5.out.gk_next hal)) (HA5.out.next hal) (HO.out.alloc _) g7 o7)
        have HX7:Hid (w7.heap[kb]?=_):=(g7.block _ (by simp;have:=(Array.getElem?_eq_some_iff.1 HX5.out).1;omega) (fun e=>by
         rcases HO.out.2 with ⟨e0,_⟩ | ⟨go,co,cu,e0,_,e2,_⟩
         ·rw [e0] at e;simp [Value.ownBlock] at e
         ·rw [e0] at e
          simp only [Value.ownBlock,Option.some.injEq] at e
          subst e
          have:=HX5.out
          rw [e2] at this
          cases this)).trans ((Below.heap_alloc _ _ _ (Array.getElem?_eq_some_iff.1 HX5.out).1).trans HX5.out)
        obtain ⟨av,cv,rfl⟩:=own_sl o7
        clear o7 g7 hal
        go_wp2
        go_roundw
        case rel =>
         refine ⟨t+1,by omega,by go_num,?_,?_,HX7.out⟩
         ·have h:=HM.out.2
          rw [show 1+(t+1)=1+t+1 by omega]
          obtain ⟨x1,x2,y1,y2,y3,y4,y5⟩:=h
          exact ⟨x1,x2,y1,y2,y3,y4,y5.mono (by rw [Nat.add_mul];omega)⟩
         ·exact HM.out.1.mono (by rw [Nat.add_mul];omega)
        case measure=>simp [intOf];omega
      ·obtain rfl:t=gv:=by omega
       go_wp2_with fail
       refine (overP_at HAT.out ⟨12,0,0,⟨#[]⟩,0⟩ HPT.out (by omega) (by show (⟨#[]⟩:ByteArray).size≤1000;decide) (by omega)).mono ?_
       rintro e w6 hh
       obtain ⟨g6,n6,k6,rfl,l6,at6,gk6⟩:=hh.get
       have HL6:=hid l6
       have HA6:=hid at6
       clear hh l6 at6 gk6
       go_wp2
       obtain ⟨ll,hll,hlo⟩:=HL6.out
       exact bodyPost_ret (v:=.tuple #[.slice (some ⟨g6,0,none⟩) n6 k6,.bool true]) (by simp [results,Tryz.results95,go_sem]) rfl (.inl ⟨_,_,_,rfl,⟨ll,hll,hlo.mono (by omega)⟩,HA6.out.mono (by omega)⟩)
    ·have hfi:(0:Int) < fr:=by omega
     have hfw:IntKind.i64.wrap ((fr:Int)+1)=(fr:Int)+1:=by rw [IntKind.wrap_i64];omega
     have HV8:=hid ((Below.refl W2.heap.size W2).drew)
     have HAD:=hid (HA2.out.next HV8.out)
     go_wp2_with fail
     go_region_held3 (fun W=>W.cell? ⟨kb,2,none⟩=some (.int .i64 fr)∧W.cell? ⟨G,0,none⟩=some (.pointer (some ⟨R,0,none⟩))) (first | (exact HKK.out) | go_keep) (first | (go_at_call 8;refine (pick_at HAD.out (HR.out.sub (by omega)) ((fr:Int)+1) (by omega)).mono ?_;rintro e w8 ⟨x8,rfl,hx8,at8,gk8⟩;have HKK:Hid (w8.cell? ⟨kb,2,none⟩=some (.int .i64 fr)∧w8.cell? ⟨G,0,none⟩=some (.pointer (some ⟨R,0,none⟩))):=(And.intro (by have h:=cell_hp ((gk8.block _ _ _ _ HX2b.out (by unfold GenT;decide)).trans HX2b.out) 2;simpa using h) at8.g0);have hxw:IntKind.i64.wrap ((pn:Int) - x8)=(pn:Int) - x8:=(by rw [IntKind.wrap_i64];omega)) | fail)
     have HA8:=hid at8
     have HP8:=hid (HP2.out.gk ((HA2.out.gk_next HV8.out).trans gk8))
     have HX8:=hid ((gk8.block _ _ _ _ HX2b.out (by unfold GenT;decide)).trans HX2b.out)
     have hx8':x8≤fr:=by omega
     obtain ⟨gv,hgv⟩:∃ gv:Nat,(pn:Int) - x8=(gv:Int):=⟨pn - x8,by omega⟩
     have hgvp:gv≤pn:=by omega
     clear hx8 at8 gk8 b1 b2 hG0
     have hg9:=HA8.out.g0
     go_wp2_with fail
     refine (pick_at HA8.out (HR.out.sub (by omega)) 2 (by omega)).mono ?_
     rintro e w9 ⟨x9,rfl,hx9,at9,gk9⟩
     skip
     have HA9:=hid at9
     have HP9:=hid (HP8.out.gk gk9)
     have HX9:=hid ((gk9.block _ _ _ _ HX8.out (by unfold GenT;decide)).trans HX8.out)
     have hx9':x9≤1:=by omega
     obtain ⟨bv,hbv⟩:∃ bv:Int,(gv:Int) - x9=bv:=⟨_,rfl⟩
     have hbw:IntKind.i64.wrap ((gv:Int) - x9)=(gv:Int) - x9:=by rw [IntKind.wrap_i64];omega
     clear hx9 at9 gk9 hg9
     go_wp2
     go_loopw [12,15] (fun pv c wi=>∃ t:Nat,t≤gv∧c=.int .i64 t∧Parts w wi pv (1+t) (1+t * (K+1))∧At ⟨R,G,ns,fs,c0,sz0,p0⟩ (0+1+1+1+t * Ce) w wi∧wi.heap[kb]?=some (.cells #[.string nm,.slice pad pn pc,.int .i64 fr,.int .i64 kd] 129 (0,0))) (fun _ c _=>gv - (intOf c).toNat)
     case atStart=>exact ⟨0,Nat.zero_le _,rfl,by simpa using HP9.out,by simpa using HA9.out,HX9.out⟩
     case round =>
      obtain ⟨t,ht,rfl,hp,ha,hbx⟩:=hrel
      have HPT:=hid hp
      have HAT:=hid ha
      have HBT:=hid hbx
      obtain ⟨gp,cp,rfl⟩:=hp.sl (by omega)
      clear hp ha
      have htc:t * Ce≤3 * Ce:=Nat.mul_le_mul_right _ (by omega)
      have htk:t * (K+1)≤3 * (K+1):=Nat.mul_le_mul_right _ (by omega)
      by_cases htl:t < gv
      ·have q1:=cell_hp hbx 1
       simp at q1
       obtain ⟨gq,kq,rfl,hkq⟩:∃ (gq:Nat) (kq:Int),pad=some ⟨gq,0,none⟩∧wr.cell? ⟨gq,t,none⟩=some (.int .i64 kq):=by
        obtain ⟨p1,c1,sz1,_,_,_,_,_,_,hgn,_⟩:=HAT.out
        obtain ⟨_,_,_,hq⟩:=hgn.fok _ HMEM.out
        rcases hq with hq | ⟨gq,cur,e1,e2,e3⟩
        ·simp only at hq;omega
        ·obtain ⟨k,hk⟩:=e3 t (by simp only;omega)
         exact ⟨gq,k,e1,(cell_hp e2 t).trans hk⟩
       have ht3:t≤2:=by omega
       have htc2:t * Ce≤2 * Ce:=Nat.mul_le_mul_right _ ht3
       have htk2:t * (K+1)≤2 * (K+1):=Nat.mul_le_mul_right _ ht3
       have htp:t < pn:=by omega
       have hti:(t:Int) < pn:=by omega
       go_wp2_with fail
       refine (e_at HE.out HAT.out (HR.out.sub (by omega)) kq).mono ?_
       rintro e w3 hh
       obtain ⟨g3,n3,k3,rfl,l3,at3,gk3⟩:=hh.get
       have HL3:=hid l3
       have HA3:=hid at3
       have HP3:=hid (HPT.out.gk gk3)
       have HX3:=hid ((gk3.block _ _ _ _ HBT.out (by unfold GenT;decide)).trans HBT.out)
       clear hh l3 at3 gk3 q1 hkq hbx
       by_cases hby:(t:Int) < bv
       ·have hby2:¬ bv≤(t:Int):=by omega
        obtain ⟨xs,ls,e1,e2,e3,e4,e5⟩:=HP3.out
        have HO:=hid e2
        have HL0:=hid (And.intro e1 (And.intro e3 (And.intro e4 e5)))
        have hws:w.heap.size≤w3.heap.size:=HA3.out.gk.size
        clear e1 e2 e3 e4 e5
        go_wp2_with (at_builtin;refine wpList_append_own _ rfl _ _ 93 rfl w.heap.size 48 i0 (.slice none 0 0) 1 24 Tryz.underlying93 HHI.out.1 HHI.out.2.1 HHI.out.2.2.1 HHI.out.2.2.2 rfl (by decide) _ _ _ rfl (HO.out.alloc _) ⟨w3.heap.size,0,none⟩ 1 1 [.slice (some ⟨g3,0,none⟩) n3 k3] rfl rfl ?c1 ?c2 ?c3 ?c4 ?c5 ?_)
        case c1 =>
         intro j u hj
         match j,hj with
         | 0,hj=>simp at hj;subst hj;rw [add_none,cell_new_row];rfl
        case c2=>intro u hu;simp at hu;subst hu;rfl
        case c3=>unfold maxLen;omega
        case c4=>omega
        case c5=>simp;omega
        intro v7 w7 o7 g7 _
        have hal:=(Below.refl w3.heap.size w3).alloc (Nat.le_refl _) (.cells #[.slice (some ⟨g3,0,none⟩) n3 k3] 48)
        have HM:=hid (Parts.more HL0.out.1 HL0.out.2.1 (fun j u l hu hll=>(HL0.out.2.2.1 j u l hu hll).next hal) HL0.out.2.2.2 (HL3.out.gk (HA3.out.gk_next hal)) (HA3.out.next hal) (HO.out.alloc _) g7 o7)
        have HX7:Hid (w7.heap[kb]?=_):=(g7.block _ (by simp;have:=(Array.getElem?_eq_some_iff.1 HX3.out).1;omega) (fun e=>by
         rcases HO.out.2 with ⟨e0,_⟩ | ⟨go,co,cu,e0,_,e2,_⟩
         ·rw [e0] at e;simp [Value.ownBlock] at e
         ·rw [e0] at e
          simp only [Value.ownBlock,Option.some.injEq] at e
          subst e
          have:=HX3.out
          rw [e2] at this
          cases this)).trans ((Below.heap_alloc _ _ _ (Array.getElem?_eq_some_iff.1 HX3.out).1).trans HX3.out)
        obtain ⟨av,cv,rfl⟩:=own_sl o7
        clear o7 g7 hal
        go_wp2
        go_roundw
        case rel =>
         refine ⟨t+1,by omega,by go_num,?_,?_,HX7.out⟩
         ·have h:=HM.out.2
          rw [show 1+(t+1)=1+t+1 by omega]
          obtain ⟨x1,x2,y1,y2,y3,y4,y5⟩:=h
          exact ⟨x1,x2,y1,y2,y3,y4,y5.mono (by rw [Nat.add_mul];omega)⟩
         ·exact HM.out.1.mono (by rw [Nat.add_mul];omega)
        case measure=>simp [intOf];omega
       ·have hby2:bv≤(t:Int):=by omega
        have HD:Hid (∀ W,Calls Tryz.prog 20 #[.int .i64 (t:Int)] W fun e w'=>∃ s:ByteArray,e=.returned (.string s)∧s.size≤18∧Below W.heap.size W w'):=fun W=>l1Dec_any 17 t W (by omega) (by omega)
        go_wp2_with fail
        refine (HD.out _).mono ?_
        rintro e w4 ⟨tx,rfl,htx,hb4⟩
        have HA4:=hid (HA3.out.next hb4)
        have HP4:=hid (HP3.out.gk (HA3.out.gk_next hb4))
        have HX4:=hid ((hb4.block _ (Array.getElem?_eq_some_iff.1 HX3.out).1).trans HX3.out)
        have HL4:=hid (HL3.out.gk (HA3.out.gk_next hb4))
        clear hb4
        go_wp2_with fail
        have hts0:((⟨#[112]⟩:ByteArray) ++ tx).size≤1000:=by rw [ByteArray.size_append];show 1+tx.size≤1000;omega
        generalize (⟨#[112]⟩:ByteArray) ++ tx=ts at hts0 ⊢
        refine (over1_at HA4.out ⟨18,0,0,ts,0⟩ _ HL4.out hts0 (by omega)).mono ?_
        rintro e w5 hh
        obtain ⟨g5,n5,k5,rfl,l5,at5,gk5⟩:=hh.get
        have HL5:=hid l5
        have HA5:=hid at5
        have HP5:=hid (HP4.out.gk gk5)
        have HX5:=hid ((gk5.block _ _ _ _ HX4.out (by unfold GenT;decide)).trans HX4.out)
        clear hh l5 at5 gk5
        obtain ⟨xs,ls,e1,e2,e3,e4,e5⟩:=HP5.out
        have HO:=hid e2
        have HL0:=hid (And.intro e1 (And.intro e3 (And.intro e4 e5)))
        have hws:w.heap.size≤w5.heap.size:=HA5.out.gk.size
        clear e1 e2 e3 e4 e5
        go_wp2_with (at_builtin;refine wpList_append_own _ rfl _ _ 93 rfl w.heap.size 48 i0 (.slice none 0 0) 1 24 Tryz.underlying93 HHI.out.1 HHI.out.2.1 HHI.out.2.2.1 HHI.out.2.2.2 rfl (by decide) _ _ _ rfl (HO.out.alloc _) ⟨w5.heap.size,0,none⟩ 1 1 [.slice (some ⟨g5,0,none⟩) n5 k5] rfl rfl ?c1 ?c2 ?c3 ?c4 ?c5 ?_)
        case c1 =>
         intro j u hj
         match j,hj with
         | 0,hj=>simp at hj;subst hj;rw [add_none,cell_new_row];rfl
        case c2=>intro u hu;simp at hu;subst hu;rfl
        case c3=>unfold maxLen;omega
        case c4=>omega
        case c5=>simp;omega
        intro v7 w7 o7 g7 _
        have hal:=(Below.refl w5.heap.size w5).alloc (Nat.le_refl _) (.cells #[.slice (some ⟨g5,0,none⟩) n5 k5] 48)
        have HM:=hid (Parts.more HL0.out.1 HL0.out.2.1 (fun j u l hu hll=>(HL0.out.2.2.1 j u l hu hll).next hal) HL0.out.2.2.2 (HL5.out.gk (HA5.out.gk_next hal)) (HA5.out.next hal) (HO.out.alloc _) g7 o7)
        have HX7:Hid (w7.heap[kb]?=_):=(g7.block _ (by simp;have:=(Array.getElem?_eq_some_iff.1 HX5.out).1;omega) (fun e=>by
         rcases HO.out.2 with ⟨e0,_⟩ | ⟨go,co,cu,e0,_,e2,_⟩
         ·rw [e0] at e;simp [Value.ownBlock] at e
         ·rw [e0] at e
          simp only [Value.ownBlock,Option.some.injEq] at e
          subst e
          have:=HX5.out
          rw [e2] at this
          cases this)).trans ((Below.heap_alloc _ _ _ (Array.getElem?_eq_some_iff.1 HX5.out).1).trans HX5.out)
        obtain ⟨av,cv,rfl⟩:=own_sl o7
        clear o7 g7 hal
        go_wp2
        go_roundw
        case rel =>
         refine ⟨t+1,by omega,by go_num,?_,?_,HX7.out⟩
         ·have h:=HM.out.2
          rw [show 1+(t+1)=1+t+1 by omega]
          obtain ⟨x1,x2,y1,y2,y3,y4,y5⟩:=h
          exact ⟨x1,x2,y1,y2,y3,y4,y5.mono (by rw [Nat.add_mul];omega)⟩
         ·exact HM.out.1.mono (by rw [Nat.add_mul];omega)
        case measure=>simp [intOf];omega
      ·obtain rfl:t=gv:=by omega
       go_wp2_with fail
       refine (overP_at HAT.out ⟨12,0,0,⟨#[]⟩,0⟩ HPT.out (by omega) (by show (⟨#[]⟩:ByteArray).size≤1000;decide) (by omega)).mono ?_
       rintro e w6 hh
       obtain ⟨g6,n6,k6,rfl,l6,at6,gk6⟩:=hh.get
       have HL6:=hid l6
       have HA6:=hid at6
       clear hh l6 at6 gk6
       go_wp2
       obtain ⟨ll,hll,hlo⟩:=HL6.out
       exact bodyPost_ret (v:=.tuple #[.slice (some ⟨g6,0,none⟩) n6 k6,.bool true]) (by simp [results,Tryz.results95,go_sem]) rfl (.inl ⟨_,_,_,rfl,⟨ll,hll,hlo.mono (by omega)⟩,HA6.out.mono (by omega)⟩)
   ·have hkc:(kd != kind)=true:=by simpa using hkk
    rw [hkbb]
    have b3:=cell_hp HXB0.out 3
    simp at b3
    clear hkbb
    go_wp2
    go_roundw
    case rel=>exact ⟨i+1,by omega,by go_num,HBX.out⟩
    case measure=>simp [intOf];omega
   -- END
  ·obtain rfl:i=fs.length:=by omega
   go_wp2
   refine bodyPost_ret (v:=.tuple #[.slice (some ⟨wr.heap.size,0,none⟩) 0 0,.bool false]) (by simp [results,Tryz.results95,go_sem]) rfl (.inr ⟨_,_,rfl,(HAR.out.next ((Below.refl _ _).alloc (Nat.le_refl _) _)).mono (by omega)⟩)
end Go.Proofs.YtabbahpalemlhaaGreatDoor
