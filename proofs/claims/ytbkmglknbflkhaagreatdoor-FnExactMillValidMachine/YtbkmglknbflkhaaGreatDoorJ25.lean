import Derived.Test.YtbkmglknbflkhaaGreatDoorJ06
import Derived.Test.YtbkmglknbflkhaaGreatDoorJ04
import Derived.Test.YtbkmglknbflkhaaGreatDoorJ23
import Derived.Test.YtbkmglknbflkhaaGreatDoorJ24
namespace Go.Proofs.YtbkmglknbflkhaaGreatDoor.M
open Go.RowKit
open Go.Proofs.YtbkmglknbflkhaaGreatDoor.J (Says says_t says_f size_zero isEmpty_iff)
open Go.Proofs.YtbkmglknbflkhaaGreatDoor.R (hid)
set_option maxRecDepth 20000
set_option maxHeartbeats 40000000 in
theorem specOver_any (x:R.Mc) {v0 v1 v2 v3 v4 v5:Value} {B:Nat} (w:World) (h:MK B w x v0 v1 v2 v3 v4 v5) (hx:R.LoMc x) (ht:x.text.size≤1048576) :
  Calls Tryz.prog 23 #[mval x v0 v1 v2 v3 v4 v5] w fun e w'=>Says e (OvOk x)∧Below w.heap.size w w':=by
 obtain ⟨gc,rfl⟩:=h.k0.sl
 obtain ⟨ga,rfl⟩:=h.k1.sl
 obtain ⟨go,rfl⟩:=h.k2.sl
 obtain ⟨gf,rfl⟩:=h.k3.sl
 obtain ⟨gl,rfl⟩:=h.k4.sl
 obtain ⟨gs,rfl⟩:=h.k5.sl
 go_enter Tryz.func23,Tryz.ntmps23
 go_upto_region 1 with fail
 have HX:=hid (MX.start w x (.slice (some ⟨gc,0,none⟩) x.codes.length x.codes.length) (.slice (some ⟨ga,0,none⟩) x.args.length x.args.length) (.slice (some ⟨go,0,none⟩) x.outs.length x.outs.length) (.slice (some ⟨gf,0,none⟩) x.frames.length x.frames.length) (.slice (some ⟨gl,0,none⟩) x.files.length x.files.length) (.slice (some ⟨gs,0,none⟩) x.said.length x.said.length))
 obtain ⟨W1,hW1⟩:∃ W,w.alloc (.cells #[.slice (some ⟨gc,0,none⟩) x.codes.length x.codes.length,.slice (some ⟨ga,0,none⟩) x.args.length x.args.length,.slice (some ⟨go,0,none⟩) x.outs.length x.outs.length,.slice (some ⟨gf,0,none⟩) x.frames.length x.frames.length,.int .i64 x.steps,.int .i64 x.looks,.int .i64 x.kind,.string x.name,.string x.hold,.bool x.over,.int .i64 x.fin,.string x.text,.slice (some ⟨gl,0,none⟩) x.files.length x.files.length,.slice (some ⟨gs,0,none⟩) x.said.length x.said.length] 34)=W:=⟨_,rfl⟩
 rw [hW1] at HX ⊢
 clear hW1
 have HLO:=hid HX.out.lo
 have HOV:Hid (OvOk x ↔ OvP x.fin x.looks x.kind x.name x.hold x.text x.codes.length x.args.length x.outs.length x.frames.length x.files.length):=hid Iff.rfl
 have hb0:=hx.1.1;have hb1:x.args.length≤1048576:=hx.2.1;have hb2:x.outs.length≤1048576:=hx.2.2.1;have hb3:=hx.2.2.2.1.1;have hb4:=hx.2.2.2.2.1.1
 have c10:=HX.out.c10
 have c5:=HX.out.c5
 have c6:=HX.out.c6
 have c7:=HX.out.c7
 have c8:=HX.out.c8
 have c11:=HX.out.c11
 have c0:=HX.out.c0
 have c1:=HX.out.c1
 have c2:=HX.out.c2
 have c3:=HX.out.c3
 have c12:=HX.out.c12
 clear HX h hx
 obtain ⟨fin,e⟩:∃ f,x.fin=f:=⟨_,rfl⟩
 rw [e] at c10 HOV
 clear e
 obtain ⟨looks,e⟩:∃ f,x.looks=f:=⟨_,rfl⟩
 rw [e] at c5 HOV
 clear e
 obtain ⟨kind,e⟩:∃ f,x.kind=f:=⟨_,rfl⟩
 rw [e] at c6 HOV
 clear e
 obtain ⟨name,e⟩:∃ f,x.name=f:=⟨_,rfl⟩
 rw [e] at c7 HOV
 clear e
 obtain ⟨hold,e⟩:∃ f,x.hold=f:=⟨_,rfl⟩
 rw [e] at c8 HOV
 clear e
 obtain ⟨text,e⟩:∃ f,x.text=f:=⟨_,rfl⟩
 rw [e] at c11 HOV ht
 clear e
 obtain ⟨nc,e⟩:∃ f,x.codes.length=f:=⟨_,rfl⟩
 rw [e] at c0 HOV hb0
 clear e
 obtain ⟨na,e⟩:∃ f,x.args.length=f:=⟨_,rfl⟩
 rw [e] at c1 HOV hb1
 clear e
 obtain ⟨no,e⟩:∃ f,x.outs.length=f:=⟨_,rfl⟩
 rw [e] at c2 HOV hb2
 clear e
 obtain ⟨nf,e⟩:∃ f,x.frames.length=f:=⟨_,rfl⟩
 rw [e] at c3 HOV hb3
 clear e
 obtain ⟨nl,e⟩:∃ f,x.files.length=f:=⟨_,rfl⟩
 rw [e] at c12 HOV hb4
 clear e
 have h5:∀ b:Bool,(some undef=some (Value.bool b))=False:=fun b=>eq_false no_undef
 by_cases s0:nc+na+no+nf=0
 ·have i0:¬ ((nc:Int)+(na:Int)+(no:Int)+(nf:Int) > 0):=by omega
  by_cases e1:looks=0
  ·subst e1
   by_cases e2:kind=0
   ·subst e2
    by_cases e3:name.size=0
    ·obtain rfl:=size_zero e3
     by_cases e4:hold.size=0
     ·obtain rfl:=size_zero e4
      by_cases e5:0≤fin∧fin≤5
      ·have HIN:Hid (Calls Tryz.prog 22 #[.int .i64 fin,.int .i64 0,.int .i64 5] W1 fun e w'=>e=.returned (.bool true)∧w'=W1):=hid ((C.l16In_any fin 0 5 W1).mono fun _ _ h=>⟨h.1.trans (by rw [show C.inB fin 0 5=true from by unfold C.inB;simp;omega]),h.2⟩)
       by_cases e6:text.size≤3000
       ·have i6:(text.size:Int)≤3000:=by omega
        by_cases e7:fin=0
        ·subst e7
         go_wp2_with (go_at_call 22;refine HIN.out.mono ?_;rintro e w2 ⟨rfl,hw⟩;have hw2:=hw.symm;clear hw;subst hw2)
         all_goals first
          | exact (no_undef (by assumption)).elim
          | (go_ret;exact ⟨says_t (HOV.out.2 ⟨by omega,by omega,by omega,by omega,by omega,by omega,by omega,by omega,by first | rfl | omega,by first | rfl | omega,by first | rfl | omega,by first | rfl | omega⟩),HLO.out⟩)
        ·have b7:(fin == 0)=false:=by simpa using e7
         by_cases e8:nl=0
         ·subst e8
          go_wp2_with (go_at_call 22;refine HIN.out.mono ?_;rintro e w2 ⟨rfl,hw⟩;have hw2:=hw.symm;clear hw;subst hw2)
          all_goals first
           | exact (no_undef (by assumption)).elim
           | (go_ret;exact ⟨says_t (HOV.out.2 ⟨by omega,by omega,by omega,by omega,by omega,by omega,by omega,by omega,by first | rfl | omega,by first | rfl | omega,by first | rfl | omega,by first | rfl | omega⟩),HLO.out⟩)
         ·have b8:((nl:Int) == 0)=false:=by simp;omega
          go_wp2_with (go_at_call 22;refine HIN.out.mono ?_;rintro e w2 ⟨rfl,hw⟩;have hw2:=hw.symm;clear hw;subst hw2)
          all_goals first
           | exact (no_undef (by assumption)).elim
           | (go_ret;exact ⟨says_f (fun h=>by have h2:=HOV.out.1 h;unfold OvP at h2;omega),HLO.out⟩)
       ·have i6:¬ ((text.size:Int)≤3000):=by omega
        go_wp2_with (go_at_call 22;refine HIN.out.mono ?_;rintro e w2 ⟨rfl,hw⟩;have hw2:=hw.symm;clear hw;subst hw2)
        all_goals first
         | exact (no_undef (by assumption)).elim
         | (go_ret;exact ⟨says_f (fun h=>by have h2:=HOV.out.1 h;unfold OvP at h2;omega),HLO.out⟩)
      ·have HIN:Hid (Calls Tryz.prog 22 #[.int .i64 fin,.int .i64 0,.int .i64 5] W1 fun e w'=>e=.returned (.bool false)∧w'=W1):=hid ((C.l16In_any fin 0 5 W1).mono fun _ _ h=>⟨h.1.trans (by rw [show C.inB fin 0 5=false from by unfold C.inB;simp;omega]),h.2⟩)
       go_wp2_with (go_at_call 22;refine HIN.out.mono ?_;rintro e w2 ⟨rfl,hw⟩;have hw2:=hw.symm;clear hw;subst hw2)
       all_goals first
        | exact (no_undef (by assumption)).elim
        | (go_ret;exact ⟨says_f (fun h=>by have h2:=HOV.out.1 h;unfold OvP at h2;omega),HLO.out⟩)
     ·have b4:=not_empty e4
      go_wp2_with fail
      all_goals first
       | exact (no_undef (by assumption)).elim
       | (go_ret;exact ⟨says_f (fun h=>by have h2:=HOV.out.1 h;unfold OvP at h2;omega),HLO.out⟩)
    ·have b3:=not_empty e3
     go_wp2_with fail
     all_goals first
      | exact (no_undef (by assumption)).elim
      | (go_ret;exact ⟨says_f (fun h=>by have h2:=HOV.out.1 h;unfold OvP at h2;omega),HLO.out⟩)
   ·have b2:(kind != 0)=true:=by simpa using e2
    go_wp2_with fail
    all_goals first
     | exact (no_undef (by assumption)).elim
     | (go_ret;exact ⟨says_f (fun h=>by have h2:=HOV.out.1 h;unfold OvP at h2;omega),HLO.out⟩)
  ·have b1:(looks != 0)=true:=by simpa using e1
   go_wp2_with fail
   all_goals first
    | exact (no_undef (by assumption)).elim
    | (go_ret;exact ⟨says_f (fun h=>by have h2:=HOV.out.1 h;unfold OvP at h2;omega),HLO.out⟩)
 ·have i0:((nc:Int)+(na:Int)+(no:Int)+(nf:Int) > 0):=by omega
  go_wp2_with fail
  all_goals first
   | exact (no_undef (by assumption)).elim
   | (go_ret;exact ⟨says_f (fun h=>by have h2:=HOV.out.1 h;unfold OvP at h2;omega),HLO.out⟩)
end Go.Proofs.YtbkmglknbflkhaaGreatDoor.M
namespace Go.Proofs.YtbkmglknbflkhaaGreatDoor.C
open Go.RowKit
set_option maxRecDepth 20000
def AftEnd (i:In) (p:Nat) (w:World) (e:Ending) (w':World):Prop:=∃ v,e=.returned v∧IntRow w' v (nums (goes i p))∧Below w.heap.size w w'∧(nums (goes i p)=[]∨∃ g c,v=.slice (some ⟨g,0,none⟩) (nums (goes i p)).length c∧w.heap.size≤g)
theorem after_lit {i:In} {p:Nat} {w W:World} (lo:Below w.heap.size w W) (l:List Int) (hl:l.length≤2) (h:nums (goes i p)=l):AftEnd i p w (.returned (.slice (some ⟨W.heap.size,0,none⟩) l.length l.length)) (W.alloc (.cells (l.map fun x=>Value.int .i64 x).toArray 3)):=by
 refine ⟨_,rfl,?_,?_,?_⟩
 ·rw [h]
  exact IntRow.lit _ l (by omega)
 ·exact lo.alloc lo.size _
 ·rw [h]
  exact .inr ⟨_,_,rfl,lo.size⟩
set_option maxHeartbeats 2000000 in
theorem after_fresh {fns:List Fn} {f:Fn} {b:Nat} {cv pv iv xv wv:Value} {w:World} (hM:MS fns f b cv pv iv xv wv w) {p:Nat} (hp:p < f.ins.length) (hp2:p≤100000) (hR:InsR fns f (f.ins.getD p in0)) :
  Calls Tryz.prog 166 #[.pointer (some ⟨b,0,none⟩),.int .i64 p] w (AftEnd (f.ins.getD p in0) p w):=by
 obtain ⟨m0,m1,m2,m3,m4,m5,m6,m7⟩:=mx hM
 obtain ⟨gI,cI,rfl,hgI,hcI⟩:=hM.ir.at hp
 obtain ⟨d0,d1,d2,d3⟩:=hcI p hp
 obtain ⟨i,hi⟩:∃ i,f.ins.getD p in0=i:=⟨_,rfl⟩
 rw [hi] at d0 d1 d2 d3 hR ⊢
 have hop:=hR.op
 have ha:=hR.place
 have hpi:(p:Int) < (f.ins.length:Int):=by omega
 have hw:IntKind.i64.wrap ((p:Int)+1)=((p+1:Nat):Int):=by rw [IntKind.wrap_i64];omega
 have HLO:Hid (Below w.heap.size w (w.alloc (ibox i))):=hid ((Below.refl _ _).alloc (Nat.le_refl _) _)
 obtain ⟨j0,j1,j2,j3⟩:=ix (ibox_new w i)
 clear hM hcI hR hi
 go_enter Tryz.func166,Tryz.ntmps166
 go_upto_region 2 with fail
 obtain ⟨W1,hW1⟩:∃ W,w.alloc (ibox i)=W:=⟨_,rfl⟩
 rw [hW1] at HLO j0 j1 j2 j3
 unfold ibox at hW1
 rw [hW1]
 clear hW1 d0 d1 d2 d3 m0 m1 m2 m3 m4 m5 m6 m7
 by_cases h12:i.op=12∨i.op=13
 ·have HG:Hid (nums (goes i p)=[]):=hid (by simp [goes,nums,h12])
  rcases h12 with h | h
  all_goals
   rw [h] at j0
   clear h hop ha
   go_wp2_with fail
   go_ret
   exact ⟨_,rfl,by rw [HG.out];exact IntRow.nil _,HLO.out,.inl HG.out⟩
 ·have e12:(i.op == 12)=false:=by simp;omega
  have e13:(i.op == 13)=false:=by simp;omega
  by_cases h10:i.op=10
  ·obtain ⟨m,hm⟩:∃ m:Nat,i.a=m:=⟨i.a.toNat,by have:=ha (.inl h10);omega⟩
   have HG:Hid (nums (goes i p)=[(m:Int)]):=hid (by simp [goes,nums,h10,hm])
   rw [h10] at j0
   rw [hm] at j1
   clear h12 h10 hop ha hm
   go_wp2_with fail
   go_ret
   have:=after_lit HLO.out [(m:Int)] (by simp) HG.out
   simpa using this
  ·have e10:(i.op == 10)=false:=by simpa using h10
   by_cases h11:i.op=11
   ·obtain ⟨m,hm⟩:∃ m:Nat,i.a=m:=⟨i.a.toNat,by have:=ha (.inr h11);omega⟩
    have HG:Hid (nums (goes i p)=[(m:Int),((p+1:Nat):Int)]):=hid (by simp [goes,nums,h11,hm])
    rw [h11] at j0
    rw [hm] at j1
    clear h12 h10 h11 hop ha hm
    go_wp2_with fail
    go_ret
    have:=after_lit HLO.out [(m:Int),((p+1:Nat):Int)] (by simp) HG.out
    simpa using this
   ·have e11:(i.op == 11)=false:=by simpa using h11
    have HG:Hid (nums (goes i p)=[((p+1:Nat):Int)]):=hid (by simp [goes,nums,h12,h10,h11])
    clear h12 h10 h11 hop ha
    go_wp2_with fail
    go_ret
    have:=after_lit HLO.out [((p+1:Nat):Int)] (by simp) HG.out
    simpa using this
theorem after_any {fns:List Fn} {f:Fn} {b:Nat} {cv pv iv xv wv:Value} {w:World} (hM:MS fns f b cv pv iv xv wv w) {p:Nat} (hp:p < f.ins.length) (hp2:p≤100000) (hR:InsR fns f (f.ins.getD p in0)) :
  Calls Tryz.prog 166 #[.pointer (some ⟨b,0,none⟩),.int .i64 p] w (GoesEnd (f.ins.getD p in0) p w):=by
 refine (after_fresh hM hp hp2 hR).mono ?_
 rintro e w' ⟨v,h1,h2,h3,_⟩
 exact ⟨v,h1,h2,h3⟩
theorem shape_info:(Tryz.prog.info? 121).map (fun i=>(i.zero,i.size,i.bytes))=some (some (.agg #[.int .i64 0,.slice none 0 0,.slice none 0 0]),3,56):=by kernel_rfl
theorem two (w:World) (a b:Obj):((w.alloc a).alloc b).heap[w.heap.size]?=some a∧((w.alloc a).alloc b).heap[w.heap.size+1]?=some b∧Below w.heap.size w ((w.alloc a).alloc b)∧((w.alloc a).alloc b).heap.size=w.heap.size+1+1:=by
 have s1:(w.alloc a).heap.size=w.heap.size+1:=by simp
 have g0:=heap_alloc_new w a
 have g1:=heap_alloc_new (w.alloc a) b
 have k1:Below (w.alloc a).heap.size (w.alloc a) ((w.alloc a).alloc b):=(Below.refl _ _).alloc (Nat.le_refl _) _
 rw [s1] at g1
 exact ⟨hp_next g0 k1,g1,((Below.refl _ _).alloc (Nat.le_refl _) _).alloc (by simp) _,by simp⟩
set_option maxHeartbeats 8000000 in
theorem shapes_any {fns:List Fn} {q:Nat} {w:World} {cv:Value} (h1:FnsRow w cv fns) (hq:q < fns.length) (hF:∀ g ∈ fns,FnR fns g) :
  Calls Tryz.prog 81 #[.agg #[cv],.int .i64 q] w (ShpEnd fns (fns.getD q fn0) w):=by
 have hf:FnR fns (fns.getD q fn0):=hF _ (by rw [List.getD_eq_getElem?_getD,List.getElem?_eq_getElem hq];exact List.getElem_mem hq)
 have H1:=hid h1
 have HF:=hid hF
 obtain ⟨gF,cF,rfl,hgF,pv,iv,v0,v1,v2,v3,v4,hpv,hiv⟩:=h1.at hq
 obtain ⟨f,hfe⟩:∃ f,fns.getD q fn0=f:=⟨_,rfl⟩
 rw [hfe] at hf v0 v2 v3 hpv hiv ⊢
 have HR:=hid hf
 have HP:=hid hpv
 have HI:=hid hiv
 have hIL:f.ins.length≤50000:=hf.some_.2
 have hI1:1≤f.ins.length:=hf.some_.1
 have hSL:(f.params.length:Int)≤f.slots:=hf.slots.1
 have hS2:f.slots≤200:=hf.slots.2
 obtain ⟨S,hS⟩:∃ S:Nat,f.slots=S:=⟨f.slots.toNat,by omega⟩
 have HS:Hid (f.S=S):=hid (by unfold Fn.S;omega)
 rw [hS] at hSL hS2
 have HSL:=hid hS
 obtain ⟨aP,cP,rfl⟩:=hpv.sl
 obtain ⟨gI,cI,rfl,hgI,_⟩:=hiv.at hI1
 obtain ⟨i3,hi3,hy0,hy1,hy2⟩:=info_parts shape_info
 have HH3:=hid (And.intro hi3 (And.intro hy0 (And.intro hy1 hy2)))
 have hqi:(q:Int) < (fns.length:Int):=by omega
 clear hi3 hy0 hy1 hF hf hfe hpv hiv h1 hS
 go_enter Tryz.func81,Tryz.ntmps81
 go_upto_region 2 with fail
 obtain ⟨t0,t1,hlo,hz⟩:=two w (.cells #[.slice (some ⟨gF,0,none⟩) fns.length cF] 59) (fbox f (.slice aP f.params.length cP) (.slice (some ⟨gI,0,none⟩) f.ins.length cI))
 obtain ⟨W2,hW2⟩:∃ W,((w.alloc (.cells #[.slice (some ⟨gF,0,none⟩) fns.length cF] 59)).alloc (fbox f (.slice aP f.params.length cP) (.slice (some ⟨gI,0,none⟩) f.ins.length cI)))=W:=⟨_,rfl⟩
 rw [hW2] at t0 t1 hlo hz
 unfold fbox at hW2
 rw [hW2]
 clear hW2
 obtain ⟨k0,k1,k2,k3,k4⟩:=fx t1
 rw [HSL.out] at k3
 go_upto_region 3 with (at_make;refine wpList_make_full _ rfl _ _ 117 rfl (w.heap.size+1+1) 121 i3 (.agg #[.int .i64 0,.slice none 0 0,.slice none 0 0]) 3 Tryz.underlying117 HH3.out.1 HH3.out.2.1 HH3.out.2.2.1 _ _ _ _ f.ins.length rfl rfl rfl rfl (by rw [hy2];omega) (by unfold maxLen;omega) (by omega) ?_;intro W3 o3 g3)
 have b3:=(Below.refl W2.heap.size W2).grown g3 (Nat.le_refl _) (fun q e=>by cases e)
 have HROW3:=hid (ShRow.made (by rw [hz] at o3;exact o3))
 have HLO3:=hid (hlo.trans (b3.mono hlo.size))
 have E0:=hid (hp_next t0 b3)
 have E1:=hid (hp_next t1 b3)
 have hz3:=HROW3.out.lt
 have k1:=(b3.cell (p:=⟨w.heap.size+1,1,none⟩) (lt_hp t1)).trans k1
 have k3:=(b3.cell (p:=⟨w.heap.size+1,3,none⟩) (lt_hp t1)).trans k3
 clear o3 g3 b3 t0 t1 hlo hz k0 k2 k4 v0 v1 v2 v3 v4
 have hall:Below W3.heap.size W3 (W3.alloc (.cells #[] 3)):=(Below.refl _ _).alloc (Nat.le_refl _) _
 have HALL:=hid hall
 have k1:=(hall.cell (p:=⟨w.heap.size+1,1,none⟩) (show w.heap.size+1 < W3.heap.size by omega)).trans k1
 clear hall
 go_wp2_with (at_builtin;refine wpList_append_row rfl (.tmp 24) (.tmp 26) rfl W3.heap.size _ 0 [] rfl (lit_own W3) _ f.params rfl (HP.out.next (HLO3.out.trans (HALL.out.mono HLO3.out.size))).part (by omega) (by simp) ?_;intro v5 W5 o5 g5;have HLO5:=hid (grown_lo HALL.out (lit_own W3) (Nat.le_refl _) g5);have HO5:=hid o5;obtain ⟨ad5,cp5,hv5⟩:=own_form o5;rw [Nat.zero_add] at hv5;subst hv5;clear o5 g5)
 rw [Nat.zero_add,List.nil_append] at HO5
 have HFI:=hid (FI.start HLO3.out E0.out E1.out HROW3.out HLO5.out HO5.out)
 obtain ⟨b7,hb7⟩:∃ b,W5.heap.size=b:=⟨_,rfl⟩
 obtain ⟨W6,hW6⟩:∃ W,W5.alloc (sbox 1 (.slice ad5 f.params.length cp5) (.slice none 0 0))=W:=⟨_,rfl⟩
 rw [hW6,hb7] at HFI
 unfold sbox at hW6
 rw [hW6,hb7]
 clear hW6 hb7 HO5 HLO5 HROW3 HLO3 E0 E1 hz3 k1 k3 HALL
 obtain ⟨i0,hi,hz0,hz1,hz2⟩:=int_parts
 have HHI:=hid (And.intro hi (And.intro hz0 (And.intro hz1 hz2)))
 clear hi hz0 hz1 hz2
 go_loopg [] (S - f.params.length) (fun k wr=>∃ (m:Nat) (ov:Value),f.params.length≤m∧m+k=S∧FI f w (.slice (some ⟨gF,0,none⟩) fns.length cF) (.slice aP f.params.length cP) (.slice (some ⟨gI,0,none⟩) f.ins.length cI) b7 ov m wr)
 case atStart=>exact ⟨f.params.length,_,Nat.le_refl _,by omega,HFI.out⟩
 case round =>
  obtain ⟨m,ov,hm1,hm2,hfi⟩:=hrel
  have HFI2:=hid hfi
  obtain ⟨adO,cO,rfl⟩:=own_form hfi.own
  obtain ⟨k0,k1,k2,k3,k4⟩:=fx hfi.e1
  rw [HSL.out] at k3
  obtain ⟨r0,r1,r2,q0,q1,q2⟩:=six_s hfi.e7
  have hz7:=lt_hp hfi.e7
  have hrl:=hfi.row.lt
  clear hfi
  by_cases hlt:m < S
  ·have hlti:(m:Int) < (S:Int):=by omega
   go_wp2_with (at_builtin;refine wpList_append_own_at _ rfl (.tmp 36) (.tmp 37) 119 rfl (w.heap.size+1+1+1) 3 i0 (.int .i64 0) 1 8 Tryz.underlying119 HHI.out.1 HHI.out.2.1 HHI.out.2.2.1 HHI.out.2.2.2 rfl (by decide) (.slice adO m cO) m _ rfl (HFI2.out.own.alloc _) ⟨wr.heap.size,0,none⟩ 1 1 [.int .i64 0] rfl rfl (cell_one_new wr _ _) (by simp [Value.oneCell']) (by unfold maxLen;omega) (by omega) (by simp;omega) ?_;intro v8 W8 o8 g8 nn8 bb8;have HM:=hid (FI.more (HFI2.out.next ((Below.refl wr.heap.size wr).alloc (Nat.le_refl _) _)) hm1 g8 o8);have e78:=(g8.block b7 (by simp;omega) (own_neS (HFI2.out.next ((Below.refl wr.heap.size wr).alloc (Nat.le_refl _) (.cells #[.int .i64 0] 3))).own (by decide) (hp_next HFI2.out.e7 ((Below.refl wr.heap.size wr).alloc (Nat.le_refl _) (.cells #[.int .i64 0] 3))))).trans (hp_next HFI2.out.e7 ((Below.refl wr.heap.size wr).alloc (Nat.le_refl _) _));obtain ⟨p0,p1,p2,l0,l1,l2⟩:=six_s e78;obtain ⟨ad8,c8,rfl⟩:=own_form o8;clear e78 o8 g8 nn8 bb8)
   go_roundg (gk - 1)
   case measure=>omega
   case rel=>exact ⟨m+1,_,by omega,by omega,HM.out⟩
  ·have hge:¬ ((m:Int) < (S:Int)):=by omega
   have HSW:=hid (HFI2.out.fin (by rw [HS.out];omega) hI1 hm1)
   obtain ⟨a1,c1,a2,c2,u0,u1,u2,_,_,f0,f1,f2⟩:=HFI2.out.row.at (i:=0) hI1
   simp only [Nat.zero_mul,Nat.zero_add] at u0 u1 u2 f0 f1 f2
   have hIi:(0:Int) < (f.ins.length:Int):=by omega
   go_wp2_with fail
   obtain ⟨W7,hW7⟩:∃ W,(((wr.setCell ⟨w.heap.size+1+1,0,none⟩ (.int .i64 1)).setCell ⟨w.heap.size+1+1,1,none⟩ (.slice adO m cO)).setCell ⟨w.heap.size+1+1,2,none⟩ (.slice none 0 0))=W:=⟨_,rfl⟩
   rw [hW7] at HSW ⊢
   clear hW7 HFI2 k0 k1 k2 k3 k4 r0 r1 r2 q0 q1 q2 hz7 hrl u0 u1 u2 f0 f1 f2 HFI
   obtain ⟨A1,hA1⟩:∃ A,upd (fun _=>bot) 0 (first f)=A:=⟨_,rfl⟩
   have HL1:Hid (Low fns f A1∧le (first f) (A1 0)):=hid (by rw [← hA1];exact ⟨le_first_low HR.out,by rw [upd_at];exact le_refl (first_ok HR.out)⟩)
   rw [hA1] at HSW
   clear hA1
   go_loopg [8] (tot f.S A1 f.ins.length+1) (fun k ag wr=>∃ (A:Nat→Sh) (again:Bool),ag=.bool again∧SW f w (.slice (some ⟨gF,0,none⟩) fns.length cF) (.slice aP f.params.length cP) (.slice (some ⟨gI,0,none⟩) f.ins.length cI) A wr∧Low fns f A∧le (first f) (A 0)∧(again=false→Closed fns f A)∧tot f.S A f.ins.length+(if again=true then 1 else 0)≤k)
   case atStart=>exact ⟨A1,true,rfl,HSW.out,HL1.out.1,HL1.out.2,(fun h=>by cases h),by simp⟩
   case round =>
    clear HSW HL1 hlt hge
    obtain ⟨A,again,rfl,hsw,hlow,hfst,hcl,hk⟩:=hrel
    have HSW:=hid hsw
    have HLW:=hid (And.intro hlow hfst)
    have HCL:=hid hcl
    have HK:=hid hk
    clear hsw hlow hfst hcl hk
    cases again with
    | false =>
     go_wp2
     go_ret
     exact ⟨_,A,rfl,by omega,HSW.out.row,HCL.out (by first | trivial | rfl),HLW.out.1,HSW.out.lo⟩
    | true =>
     go_wp2_with fail
     go_loopw [8,9] (fun ag i wr=>∃ (j:Nat) (A2:Nat→Sh) (ag2:Bool),j≤f.ins.length∧ag=.bool ag2∧i=.int .i64 j∧SW f w (.slice (some ⟨gF,0,none⟩) fns.length cF) (.slice aP f.params.length cP) (.slice (some ⟨gI,0,none⟩) f.ins.length cI) A2 wr∧RInv fns f A A2 j ag2) (fun _ i _=>f.ins.length - (intOf i).toNat)
     case atStart=>exact ⟨0,A,false,Nat.zero_le _,rfl,rfl,HSW.out,RInv.start HLW.out.1 HLW.out.2⟩
     case round =>
      obtain ⟨j,A2,ag2,hj,rfl,rfl,hsw2,hri⟩:=hrel
      have HSW2:=hid hsw2
      have HRI:=hid hri
      clear hsw2 hri
      by_cases hlt:j < f.ins.length
      ·have hlti:(j:Int) < (f.ins.length:Int):=by omega
       obtain ⟨a1,c1,a2,c2,u0,u1,u2,rw1,rw2,_,_,_⟩:=HSW2.out.row.at hlt
       have HROW:=hid (And.intro rw1 rw2)
       clear rw1 rw2
       by_cases hst:(A2 j).st=0
       ·rw [hst] at u0
        have HST:=hid hst
        clear hst
        go_wp2_with fail
        go_roundw
        case rel=>exact ⟨j+1,A2,ag2,by omega,rfl,by go_num,HSW2.out,HRI.out.skip HST.out⟩
        case measure=>simp [intOf];omega
       ·have HST:=hid hst
        have hstb:(((A2 j).st:Int) == 0)=false:=by simpa using hst
        clear hst
        have HBEH:Hid (∀ V,Below wr.heap.size wr V→Calls Tryz.prog 82 #[.agg #[.slice (some ⟨gF,0,none⟩) fns.length cF],.agg #[.string f.name,.slice aP f.params.length cP,.int .i64 f.result,.int .i64 f.slots,.slice (some ⟨gI,0,none⟩) f.ins.length cI],.int .i64 j,.agg #[.int .i64 ((A2 j).st:Nat),.slice a1 (A2 j).sl.length c1,.slice a2 (A2 j).sk.length c2]] V (BehEnd fns f j (A2 j) V)):=hid fun V hV=>beh_any (H1.out.next (HSW2.out.lo.trans (hV.mono HSW2.out.lo.size))) ⟨_,_,rfl,HP.out.next (HSW2.out.lo.trans (hV.mono HSW2.out.lo.size)),HI.out.next (HSW2.out.lo.trans (hV.mono HSW2.out.lo.size))⟩ ⟨_,_,rfl,HROW.out.1.next hV,HROW.out.2.next hV⟩ HF.out HR.out hlt (HRI.out.low.ok j hlt) HST.out
        have k0:=cx HSW2.out.e0
        obtain ⟨v0,v1,v2,v3,v4⟩:=fx HSW2.out.e1
        have hrl:=HSW2.out.row.lt
        have HS14:Hid (∀ V,Below wr.heap.size wr V→S14 f w (.slice (some ⟨gF,0,none⟩) fns.length cF) (.slice aP f.params.length cP) (.slice (some ⟨gI,0,none⟩) f.ins.length cI) j (A2 j) a1 c1 a2 c2 V):=hid fun V hV=>S14.of HSW2.out hlt hV u0 u1 u2
        go_upto_region 14 with fail
        go_cut [10] (fun v wx=>∃ (b:Nat) (ax:Option Addr) (cx:Nat) (ay:Option Addr) (cy:Nat),v=.pointer (some ⟨b,0,none⟩)∧BS (behind fns f j (A2 j)) b (.slice ax (behind fns f j (A2 j)).sl.length cx) (.slice ay (behind fns f j (A2 j)).sk.length cy) wx∧w.heap.size+1+1 < b∧SW f w (.slice (some ⟨gF,0,none⟩) fns.length cF) (.slice aP f.params.length cP) (.slice (some ⟨gI,0,none⟩) f.ins.length cI) A2 wx)
        case first =>
         go_region_held3 (fun V=>V.cell? ⟨w.heap.size,0,none⟩=some (.slice (some ⟨gF,0,none⟩) fns.length cF)∧V.cell? ⟨w.heap.size+1,0,none⟩=some (.string f.name)∧V.cell? ⟨w.heap.size+1,1,none⟩=some (.slice aP f.params.length cP)∧V.cell? ⟨w.heap.size+1,2,none⟩=some (.int .i64 f.result)∧V.cell? ⟨w.heap.size+1,3,none⟩=some (.int .i64 f.slots)∧V.cell? ⟨w.heap.size+1,4,none⟩=some (.slice (some ⟨gI,0,none⟩) f.ins.length cI)∧V.cell? ⟨w.heap.size+1+1,j * 3,none⟩=some (.int .i64 ((A2 j).st:Nat))∧V.cell? ⟨w.heap.size+1+1,j * 3+1,none⟩=some (.slice a1 (A2 j).sl.length c1)∧V.cell? ⟨w.heap.size+1+1,j * 3+2,none⟩=some (.slice a2 (A2 j).sk.length c2)) (first | (exact HS14.out _ (Below.refl _ _).drew) | (exact HS14.out _ ((Below.refl _ _).alloc (Nat.le_refl _) _)) | (exact HS14.out _ HB9.out) | (exact HS14.out _ (HB9.out.alloc HB9.out.size _)) | (exact HS14.out _ (set_lo (set_lo (set_lo HB9.out _ _ (Nat.le_refl _) _) _ _ (Nat.le_refl _) _) _ _ (Nat.le_refl _) _)) | go_keep) (first
          | (go_at_call 82;refine (HBEH.out _ ((Below.refl _ _).alloc (Nat.le_refl _) _).drew).mono ?_;rintro e w9 ⟨bv,rfl,hsv,hb9⟩;obtain ⟨x,y,rfl,hx,hy⟩:=hsv;obtain ⟨ax,cx,rfl⟩:=hx.sl;obtain ⟨ay,cy,rfl⟩:=hy.sl;have e9:w9.heap[wr.heap.size]?=some (sbox 0 (.slice none 0 0) (.slice none 0 0)):=hp_next (heap_alloc_new wr _) (show Below (wr.alloc (sbox 0 (.slice none 0 0) (.slice none 0 0))).heap.size (wr.alloc (sbox 0 (.slice none 0 0) (.slice none 0 0))) w9 from (Below.refl _ _).drew.trans hb9);have HE9:=hid e9;obtain ⟨z0,z1,z2,y0,y1,y2⟩:=six_s e9;have HB9:=hid (((Below.refl wr.heap.size wr).alloc (Nat.le_refl _) (sbox 0 (.slice none 0 0) (.slice none 0 0))).drew.trans (hb9.mono (by simp)));have HX:=hid hx;have HY:=hid hy;clear e9 hx hy hb9)
          | (go_at_call 82;refine (HBEH.out _ (Below.refl _ _).drew).mono ?_;rintro e w9 ⟨bv,rfl,hsv,hb9⟩;obtain ⟨x,y,rfl,hx,hy⟩:=hsv;obtain ⟨ax,cx,rfl⟩:=hx.sl;obtain ⟨ay,cy,rfl⟩:=hy.sl;have HX:=hid hx;have HY:=hid hy;have HB9:=hid ((Below.refl wr.heap.size wr).drew.trans hb9);clear hx hy hb9))
         all_goals go_wp2_with fail
         all_goals go_meet
         all_goals first
          | (exact ⟨_,ax,cx,ay,cy,rfl,box_early HE9.out HX.out HY.out,hrl,(HSW2.out.next HB9.out).set3 HE9.out hrl _ _ _⟩)
          | (exact ⟨_,ax,cx,ay,cy,rfl,box_late HX.out HY.out,Nat.lt_of_lt_of_le hrl HB9.out.size,(HSW2.out.next HB9.out).next ((Below.refl _ _).alloc (Nat.le_refl _) _)⟩)
        case rest =>
         obtain ⟨b10,ax,cx,ay,cy,rfl,hbs,hgt,hsw3⟩:=hcut
         obtain ⟨W10,hW10⟩:∃ W,wc=W:=⟨_,rfl⟩
         rw [hW10] at hbs hsw3 ⊢
         have HKI:=hid (HRI.out.go HR.out HF.out hlt HST.out)
         obtain ⟨s,hs⟩:∃ s,behind fns f j (A2 j)=s:=⟨_,rfl⟩
         rw [hs] at hbs HKI
         rw [hs] at *
         have HBS:=hid hbs
         have HSW3:=hid hsw3
         clear hW10 hbs hsw3 hs HBEH HS14 HROW u0 u1 u2 k0 v0 v1 v2 v3 v4
         obtain ⟨v0,v1,v2,v3,v4⟩:=fx HSW3.out.e1
         obtain ⟨gI2,cI2,e9,_,hcI⟩:=(HI.out.next HSW3.out.lo).at hlt
         injection e9 with e9 _ ec
         injection e9 with e9
         injection e9 with e9
         subst e9 ec
         obtain ⟨d0,d1,d2,d3⟩:=hcI j hlt
         have HIR:Hid (InsR fns f (f.ins.getD j in0)):=hid (HR.out.ins _ (by rw [List.getD_eq_getElem?_getD,List.getElem?_eq_getElem hlt];exact List.getElem_mem hlt))
         obtain ⟨i,hi⟩:∃ i,f.ins.getD j in0=i:=⟨_,rfl⟩
         rw [hi] at d0 d1 d2 d3 HIR
         have HIE:=hid hi
         clear hcI hi
         go_wp2_with (go_at_call 108;refine (goes_any i j _ (by omega) HIR.out.op (fun h=>(HIR.out.place h).1)).mono ?_;rintro e w11 ⟨gv,rfl,hgr,hb11⟩;obtain ⟨gad,gc,hgv⟩:=hgr.sl;rw [nums_length] at hgv;subst hgv;have HKS:Hid (KS f w (.slice (some ⟨gF,0,none⟩) fns.length cF) (.slice aP f.params.length cP) (.slice (some ⟨gI,0,none⟩) f.ins.length cI) A2 s b10 (.slice ax s.sl.length cx) (.slice ay s.sk.length cy) (.slice gad (goes i j).length gc) (nums (goes i j)) w11):=hid ⟨HSW3.out.next hb11,HBS.out.next hb11,hgr,hgt⟩;clear hb11 hgr)
         have hgl:(goes i j).length≤2:=goes_few i j
         go_loopw [8,12] (fun ag k wr=>∃ (z:Nat) (A3:Nat→Sh) (ag3:Bool),z≤(goes i j).length∧ag=.bool ag3∧k=.int .i64 z∧KS f w (.slice (some ⟨gF,0,none⟩) fns.length cF) (.slice aP f.params.length cP) (.slice (some ⟨gI,0,none⟩) f.ins.length cI) A3 s b10 (.slice ax s.sl.length cx) (.slice ay s.sk.length cy) (.slice gad (goes i j).length gc) (nums (goes i j)) wr∧KInv fns f A A3 j z s ag3) (fun _ k _=>(goes i j).length - (intOf k).toNat)
         case atStart=>exact ⟨0,A2,ag2,Nat.zero_le _,rfl,rfl,HKS.out,HKI.out⟩
         case round =>
          clear HKS HKI HBS HSW3 v0 v1 v2 v3 v4 d0 d1 d2 d3 HSW2 HRI
          obtain ⟨z,A3,ag3,hz,rfl,rfl,hks,hki⟩:=hrel
          have HKS:=hid hks
          have HKI:=hid hki
          clear hks hki
          by_cases hzt:z < (goes i j).length
          ·have hzi:(z:Int) < ((goes i j).length:Int):=by omega
           obtain ⟨g,hgz⟩:∃ g,(goes i j)[z]?=some g:=⟨_,List.getElem?_eq_getElem hzt⟩
           have HGZ:Hid ((goes (f.ins.getD j in0) j)[z]?=some g):=hid (by rw [HIE.out];exact hgz)
           obtain ⟨gg,gc2,e9,_,_,hggl,hgc⟩:=HKS.out.gr.at (i:=z) (by rw [nums_length];exact hzt)
           injection e9 with e9 en ec
           clear en
           subst e9 ec
           have n0:=hgc z (by rw [nums_length];exact hzt)
           rw [nums_get hgz] at n0
           have HGC:=hid hgc
           have hrl4:=HKS.out.sw.row.lt
           clear hgc hgz
           by_cases hgn:g < f.ins.length
           ·have hgni:(g:Int) < (f.ins.length:Int):=by omega
            obtain ⟨a3,c3,a4,c4,u0,u1,u2,rw1,rw2,_,_,_⟩:=HKS.out.sw.row.at hgn
            obtain ⟨x0,x1,x2,_,_,_⟩:=six_s HKS.out.bs.e
            have hbl:=lt_hp HKS.out.bs.e
            have HCALL:Hid (∀ V,Below wr.heap.size wr V→Calls Tryz.prog 109 #[.agg #[.int .i64 ((A3 g).st:Nat),.slice a3 (A3 g).sl.length c3,.slice a4 (A3 g).sk.length c4],.agg #[.int .i64 (s.st:Nat),.slice ax s.sl.length cx,.slice ay s.sk.length cy]] V (JoinEnd (A3 g) s V)):=hid fun V hV=>join_any (HKI.out.base.low.ok g hgn) HKI.out.src.ok HKI.out.src.st (by rw [HS.out];omega) ⟨_,_,rfl,rw1.next hV,rw2.next hV⟩ ⟨_,_,rfl,HKS.out.bs.r1.next hV,HKS.out.bs.r2.next hV⟩
            have HS20:Hid (∀ V,Below wr.heap.size wr V→V.cell? ⟨gg,z,none⟩=some (.int .i64 (g:Int))∧V.cell? ⟨w.heap.size+1+1,g * 3,none⟩=some (.int .i64 ((A3 g).st:Nat))∧V.cell? ⟨w.heap.size+1+1,g * 3+1,none⟩=some (.slice a3 (A3 g).sl.length c3)∧V.cell? ⟨w.heap.size+1+1,g * 3+2,none⟩=some (.slice a4 (A3 g).sk.length c4)∧V.cell? ⟨b10,0,none⟩=some (.int .i64 (s.st:Nat))∧V.cell? ⟨b10,1,none⟩=some (.slice ax s.sl.length cx)∧V.cell? ⟨b10,2,none⟩=some (.slice ay s.sk.length cy)):=hid fun V hV=>⟨(hV.cell (p:=⟨gg,z,none⟩) hggl).trans n0,(hV.cell (p:=⟨w.heap.size+1+1,g * 3,none⟩) hrl4).trans u0,(hV.cell (p:=⟨w.heap.size+1+1,g * 3+1,none⟩) hrl4).trans u1,(hV.cell (p:=⟨w.heap.size+1+1,g * 3+2,none⟩) hrl4).trans u2,(hV.cell (p:=⟨b10,0,none⟩) hbl).trans x0,(hV.cell (p:=⟨b10,1,none⟩) hbl).trans x1,(hV.cell (p:=⟨b10,2,none⟩) hbl).trans x2⟩
            clear rw1 rw2
            go_upto_region 20 with fail
            go_cut [13,14] (fun v c wx=>∃ (b:Nat) (ch:Bool) (px:Option Addr) (qx:Nat) (py:Option Addr) (qy:Nat),v=.pointer (some ⟨b,0,none⟩)∧c=.bool ch∧(ch=true ↔ ¬ join (A3 g) s=A3 g)∧BS (join (A3 g) s) b (.slice px (join (A3 g) s).sl.length qx) (.slice py (join (A3 g) s).sk.length qy) wx∧KS f w (.slice (some ⟨gF,0,none⟩) fns.length cF) (.slice aP f.params.length cP) (.slice (some ⟨gI,0,none⟩) f.ins.length cI) A3 s b10 (.slice ax s.sl.length cx) (.slice ay s.sk.length cy) (.slice (some ⟨gg,0,none⟩) (goes i j).length gc) (nums (goes i j)) wx)
            case first =>
             go_region_held3 (fun V=>V.cell? ⟨gg,z,none⟩=some (.int .i64 (g:Int))∧V.cell? ⟨w.heap.size+1+1,g * 3,none⟩=some (.int .i64 ((A3 g).st:Nat))∧V.cell? ⟨w.heap.size+1+1,g * 3+1,none⟩=some (.slice a3 (A3 g).sl.length c3)∧V.cell? ⟨w.heap.size+1+1,g * 3+2,none⟩=some (.slice a4 (A3 g).sk.length c4)∧V.cell? ⟨b10,0,none⟩=some (.int .i64 (s.st:Nat))∧V.cell? ⟨b10,1,none⟩=some (.slice ax s.sl.length cx)∧V.cell? ⟨b10,2,none⟩=some (.slice ay s.sk.length cy)) (first | (exact HS20.out _ (Below.refl _ _).drew) | (exact HS20.out _ ((Below.refl _ _).alloc (Nat.le_refl _) _)) | (exact HS20.out _ HB9.out) | (exact HS20.out _ (HB9.out.alloc HB9.out.size _)) | (exact HS20.out _ (set_lo (set_lo (set_lo HB9.out _ _ (Nat.le_refl _) _) _ _ (Nat.le_refl _) _) _ _ (Nat.le_refl _) _)) | go_keep) (first
              | (go_at_call 109;refine (HCALL.out _ ((Below.refl _ _).alloc (Nat.le_refl _) _).drew).mono ?_;rintro e w9 ⟨bv,ch,rfl,hsv,hch,hb9⟩;obtain ⟨x,y,rfl,hx,hy⟩:=hsv;obtain ⟨px,qx,rfl⟩:=hx.sl;obtain ⟨py,qy,rfl⟩:=hy.sl;have e9:w9.heap[wr.heap.size]?=some (sbox 0 (.slice none 0 0) (.slice none 0 0)):=hp_next (heap_alloc_new wr _) (show Below (wr.alloc (sbox 0 (.slice none 0 0) (.slice none 0 0))).heap.size (wr.alloc (sbox 0 (.slice none 0 0) (.slice none 0 0))) w9 from (Below.refl _ _).drew.trans hb9);have HE9:=hid e9;obtain ⟨z0,z1,z2,y0,y1,y2⟩:=six_s e9;have HB9:=hid (((Below.refl wr.heap.size wr).alloc (Nat.le_refl _) (sbox 0 (.slice none 0 0) (.slice none 0 0))).drew.trans (hb9.mono (by simp)));have HX:=hid hx;have HY:=hid hy;have HCH:=hid hch;clear e9 hx hy hb9 hch)
              | (go_at_call 109;refine (HCALL.out _ (Below.refl _ _).drew).mono ?_;rintro e w9 ⟨bv,ch,rfl,hsv,hch,hb9⟩;obtain ⟨x,y,rfl,hx,hy⟩:=hsv;obtain ⟨px,qx,rfl⟩:=hx.sl;obtain ⟨py,qy,rfl⟩:=hy.sl;have HX:=hid hx;have HY:=hid hy;have HCH:=hid hch;have HB9:=hid ((Below.refl wr.heap.size wr).drew.trans hb9);clear hx hy hb9 hch))
             all_goals go_wp2_with fail
             all_goals go_meet
             all_goals first
              | (exact ⟨_,ch,px,qx,py,qy,rfl,rfl,HCH.out,box_early HE9.out HX.out HY.out,(HKS.out.next HB9.out).set3 HE9.out hrl4 (Nat.ne_of_lt hbl) _ _ _⟩)
              | (exact ⟨_,ch,px,qx,py,qy,rfl,rfl,HCH.out,box_late HX.out HY.out,(HKS.out.next HB9.out).next ((Below.refl _ _).alloc (Nat.le_refl _) _)⟩)
            case rest =>
             obtain ⟨b13,ch,px,qx,py,qy,rfl,rfl,hch,hbj,hks4⟩:=hcut
             obtain ⟨W20,hW20⟩:∃ W,wc=W:=⟨_,rfl⟩
             rw [hW20] at hbj hks4 ⊢
             have HCH:=hid hch
             have HBJ:=hid hbj
             have HKS4:=hid hks4
             clear hW20 hch hbj hks4 HCALL HS20 u0 u1 u2 x0 x1 x2 n0
             have HKN:=hid (HKI.out.both HGZ.out hgn HCH.out)
             obtain ⟨gg2,gc3,e9,_,_,hggl2,hgc⟩:=HKS4.out.gr.at (i:=z) (by rw [nums_length];exact hzt)
             injection e9 with e9 en ec
             clear en
             injection e9 with e9
             injection e9 with e9
             subst e9 ec
             have n0:=hgc z (by rw [nums_length];exact hzt)
             obtain ⟨g9,hgz⟩:∃ g,(goes i j)[z]?=some g:=⟨_,List.getElem?_eq_getElem hzt⟩
             obtain rfl:g9=g:=by
              have:=HGZ.out
              rw [HIE.out,hgz] at this
              injection this
             rw [nums_get hgz] at n0
             clear hgc hgz HGC
             obtain ⟨a3,c3,a4,c4,u0,u1,u2,_,_,f0,f1,f2⟩:=HKS4.out.sw.row.at hgn
             have HPUT:=hid (HKS4.out.put hgn HBJ.out.r1 HBJ.out.r2)
             obtain ⟨J,hJ⟩:∃ J,join (A3 g9) s=J:=⟨_,rfl⟩
             rw [hJ] at HBJ HPUT HKN
             obtain ⟨x0,x1,x2,_,_,_⟩:=six_s HBJ.out.e
             clear hJ
             go_wp2_with fail
             go_region
             cases ag3 with
             | false =>
              go_wp2_with fail
              go_roundw
              case rel=>exact ⟨z+1,upd A3 g9 J,ch,by omega,rfl,by go_num,HPUT.out.next (Below.refl _ _).drew,by simpa using HKN.out⟩
              case measure=>simp [intOf];omega
             | true =>
              go_wp2_with fail
              go_roundw
              case rel=>exact ⟨z+1,upd A3 g9 J,true,by omega,rfl,by go_num,HPUT.out.next (Below.refl _ _).drew,by simpa using HKN.out⟩
              case measure=>simp [intOf];omega
           ·have hgni:¬ (g:Int) < (f.ins.length:Int):=by omega
            go_wp2_with fail
            go_roundw
            case rel=>exact ⟨z+1,A3,ag3,by omega,rfl,by go_num,HKS.out,HKI.out.out HGZ.out hgn⟩
            case measure=>simp [intOf];omega
          ·obtain rfl:z=(goes i j).length:=by omega
           have hge:¬ (((goes i j).length:Int) < ((goes i j).length:Int)):=by omega
           go_wp2_with fail
           go_roundw
           case rel=>exact ⟨j+1,A3,ag3,by omega,rfl,by go_num,HKS.out.sw,HKI.out.fin (by rw [HIE.out];exact Nat.le_refl _)⟩
           case measure=>simp [intOf];omega
      ·obtain rfl:j=f.ins.length:=by omega
       have hge:¬ ((f.ins.length:Int) < (f.ins.length:Int)):=by omega
       go_wp2_with fail
       go_roundg (tot f.S A2 f.ins.length+(if ag2=true then 1 else 0))
       case measure =>
        have h9:=HK.out
        simp at h9
        cases ag2 with
        | false =>
         have:=tot_same (S:=f.S) f.ins.length (HRI.out.same rfl).1
         simp;omega
        | true =>
         have:=HRI.out.less rfl
         simp;omega
       case rel=>exact ⟨A2,ag2,rfl,HSW2.out,HRI.out.low,HRI.out.fst,(fun h=>by subst h;exact HRI.out.closed),Nat.le_refl _⟩
end Go.Proofs.YtbkmglknbflkhaaGreatDoor.C
namespace Go.Proofs.YtbkmglknbflkhaaGreatDoor.C
open Go.RowKit
theorem fitL_all:∀ (a t:List Int),fitL a t=true ↔ a.length=t.length∧∀ z,z < a.length→fitK (a.getD z 0) (t.getD z 0)=true
 | [],[]=>by simp [fitL]
 | [],_ :: _=>by simp [fitL]
 | _ :: _,[]=>by simp [fitL]
 | x :: a,y :: t=>by
  have ih:=fitL_all a t
  simp only [fitL,Bool.and_eq_true,ih,List.length_cons]
  constructor
  ·rintro ⟨h1,h2,h3⟩
   refine ⟨by omega,fun z hz=>?_⟩
   cases z with
   | zero=>simpa using h1
   | succ z=>simpa using h3 z (by omega)
  ·rintro ⟨h1,h2⟩
   exact ⟨by simpa using h2 0 (by omega),by omega,fun z hz=>by simpa using h2 (z+1) (by omega)⟩
theorem eq_iff_get {a t:List Int} (hl:a.length=t.length):t=a ↔ ∀ z,z < a.length→a.getD z 0=t.getD z 0:=by
 constructor
 ·intro h z _;rw [h]
 ·intro h
  apply List.ext_getElem (by omega)
  intro z h1 h2
  have:=h z h2
  simpa [List.getD_eq_getElem?_getD,h1,h2] using this.symm
def AllT (fns:List Fn) (f:Fn) (i:In) (tk:List Int):Prop:=∀ z,z < takesN fns i→tkB fns f i z (tk.getD z 0)=true
theorem fit_neg {k:Int} (hk:1≤k):fitK (-1) k=isI k:=by
 unfold fitK
 have:¬ (-1:Int)=k:=by omega
 simp [this]
theorem fit_pos {q k:Int} (hq:¬ q=-1):fitK q k=decide (q=k):=by unfold fitK;simp [hq]
theorem whn_pos {p:Prop} [Decidable p] {l:List Int} (h:p):whn p l=some l:=by unfold whn;rw [if_pos h]
theorem whn_neg {p:Prop} [Decidable p] {l:List Int} (h:¬ p):whn p l=none:=by unfold whn;rw [if_neg h]
theorem getD1 {l:List Int} (h:∀ x ∈ l,1≤x∧x≤10) {z:Nat} (hz:z < l.length):1≤l.getD z 0∧l.getD z 0≤10:=by
 rw [List.getD_eq_getElem?_getD,List.getElem?_eq_getElem hz]
 exact h _ (List.getElem_mem hz)
theorem eff_put {fns:List Fn} {f:Fn} {i:In} (hi:InsR fns f i) (_hF:∀ g ∈ fns,FnR fns g) {sl tk:List Int} (hr:∀ x ∈ tk,1≤x∧x≤10) (hl:tk.length=takesN fns i) :
  (AllT fns f i tk→(putR fns i sl tk).2=true→eff fns f i sl tk=some (putR fns i sl tk).1)∧(¬ (AllT fns f i tk∧(putR fns i sl tk).2=true)→eff fns f i sl tk=none):=by
 obtain ⟨op,a,n,tx⟩:=i
 have hop:=hi.op
 dsimp only at hop
 obtain rfl | rfl | rfl | rfl | rfl | rfl | rfl | rfl | rfl | rfl | rfl | rfl | rfl | rfl | rfl | rfl:op=1∨op=2∨op=3∨op=4∨op=5∨op=6∨op=7∨op=8∨op=9∨op=10∨op=11∨op=12∨op=13∨op=14∨op=15∨op=16:=by omega
 ·have hp:=hi.push rfl
  dsimp only at hp
  have ha:¬ a=0:=by omega
  have hT:AllT fns f ⟨1,a,n,tx⟩ tk:=fun z hz=>by simp [takesN] at hz
  have hP:putR fns ⟨1,a,n,tx⟩ sl tk=([a],true):=by simp [putR,putsT,putK,ha]
  rw [hP]
  exact ⟨fun _ _=>by simp [eff],fun h=>absurd ⟨hT,rfl⟩ h⟩
 ·have hT:AllT fns f ⟨2,a,n,tx⟩ tk:=fun z hz=>by simp [takesN] at hz
  have hP:putR fns ⟨2,a,n,tx⟩ sl tk=([sl.getD a.toNat 0],decide (¬ sl.getD a.toNat 0=0)):=by simp [putR,putsT,putK]
  have hE:eff fns f ⟨2,a,n,tx⟩ sl tk=opt (sl.getD a.toNat 0):=by simp [eff]
  rw [hP,hE]
  unfold opt
  refine ⟨fun _ h=>?_,fun h=>?_⟩
  ·rw [if_neg (by simpa using h)]
  ·rw [if_pos (Decidable.byContradiction fun h9=>h ⟨hT,by simpa using h9⟩)]
 ·have hT:AllT fns f ⟨3,a,n,tx⟩ tk:=fun z hz=>by
   obtain rfl:z=0:=by simp [takesN] at hz;omega
   simp [tkB,takesT]
  have hP:putR fns ⟨3,a,n,tx⟩ sl tk=([],true):=by simp [putR,putsT]
  rw [hP]
  exact ⟨fun _ _=>by simp [eff],fun h=>absurd ⟨hT,rfl⟩ h⟩
 ·have hT:AllT fns f ⟨4,a,n,tx⟩ tk:=fun z hz=>by
   obtain rfl:z=0:=by simp [takesN] at hz;omega
   simp [tkB,takesT]
  have hP:putR fns ⟨4,a,n,tx⟩ sl tk=([],true):=by simp [putR,putsT]
  rw [hP]
  exact ⟨fun _ _=>by simp [eff],fun h=>absurd ⟨hT,rfl⟩ h⟩
 ·have hT:AllT fns f ⟨5,a,n,tx⟩ tk:=fun z hz=>by
   obtain rfl:z=0:=by simp [takesN] at hz;omega
   simp [tkB,takesT]
  have hP:putR fns ⟨5,a,n,tx⟩ sl tk=([unG a (tk.getD 0 0)],decide (¬ unG a (tk.getD 0 0)=0)):=by simp [putR,putsT,putK]
  have hE:eff fns f ⟨5,a,n,tx⟩ sl tk=opt (unG a (tk.getD 0 0)):=by simp [eff]
  rw [hP,hE]
  unfold opt
  refine ⟨fun _ h=>?_,fun h=>?_⟩
  ·rw [if_neg (by simpa using h)]
  ·rw [if_pos (Decidable.byContradiction fun h9=>h ⟨hT,by simpa using h9⟩)]
 ·have hT:AllT fns f ⟨6,a,n,tx⟩ tk:=fun z hz=>by
   obtain rfl | rfl:z=0∨z=1:=by simp [takesN] at hz;omega
   ·simp [tkB,takesT]
   ·simp [tkB,takesT]
  have hP:putR fns ⟨6,a,n,tx⟩ sl tk=([binG a (tk.getD 0 0) (tk.getD 1 0)],decide (¬ binG a (tk.getD 0 0) (tk.getD 1 0)=0)):=by simp [putR,putsT,putK]
  have hE:eff fns f ⟨6,a,n,tx⟩ sl tk=opt (binG a (tk.getD 0 0) (tk.getD 1 0)):=by simp [eff]
  rw [hP,hE]
  unfold opt
  refine ⟨fun _ h=>?_,fun h=>?_⟩
  ·rw [if_neg (by simpa using h)]
  ·rw [if_pos (Decidable.byContradiction fun h9=>h ⟨hT,by simpa using h9⟩)]
 ·have hp:=hi.conv rfl
  dsimp only at hp
  have ha:¬ a=0:=by omega
  have h0:0 < tk.length:=by rw [hl];simp [takesN]
  have hT:AllT fns f ⟨7,a,n,tx⟩ tk ↔ isI (tk.getD 0 0)=true:=by
   have e:tkB fns f ⟨7,a,n,tx⟩ 0 (tk.getD 0 0)=isI (tk.getD 0 0):=by
    have:tkB fns f ⟨7,a,n,tx⟩ 0 (tk.getD 0 0)=fitK (-1) (tk.getD 0 0):=by simp [tkB,takesT]
    rw [this,fit_neg (getD1 hr h0).1]
   constructor
   ·intro h;rw [← e];exact h 0 (by simp [takesN])
   ·intro h z hz
    obtain rfl:z=0:=by simp [takesN] at hz;omega
    rw [e];exact h
  have hP:putR fns ⟨7,a,n,tx⟩ sl tk=([a],true):=by simp [putR,putsT,putK,ha]
  have hE:eff fns f ⟨7,a,n,tx⟩ sl tk=whn (isI (tk.getD 0 0)=true) [a]:=by simp [eff]
  rw [hP,hE]
  exact ⟨fun h _=>whn_pos (hT.1 h),fun h=>whn_neg fun h9=>h ⟨hT.2 h9,rfl⟩⟩
 ·have hs:=sig_range a
  have ha:¬ (sig a).2=0:=by omega
  have hn:takesN fns ⟨8,a,n,tx⟩=(sig a).1.length:=by simp [takesN]
  have hT:AllT fns f ⟨8,a,n,tx⟩ tk ↔ fitL (sig a).1 tk=true:=by
   rw [fitL_all]
   have e:∀ z,tkB fns f ⟨8,a,n,tx⟩ z (tk.getD z 0)=fitK ((sig a).1.getD z 0) (tk.getD z 0):=fun z=>by simp [tkB]
   constructor
   ·intro h;exact ⟨by rw [hl,hn],fun z hz=>by rw [← e];exact h z (by rw [hn];exact hz)⟩
   ·intro h z hz;rw [e];exact h.2 z (by rw [← hn];exact hz)
  have hP:putR fns ⟨8,a,n,tx⟩ sl tk=([(sig a).2],true):=by simp [putR,putsT,putK,ha]
  have hE:eff fns f ⟨8,a,n,tx⟩ sl tk=whn (fitL (sig a).1 tk=true) [(sig a).2]:=by simp [eff]
  rw [hP,hE]
  exact ⟨fun h _=>whn_pos (hT.1 h),fun h=>whn_neg fun h9=>h ⟨hT.2 h9,rfl⟩⟩
 ·have hn:takesN fns ⟨9,a,n,tx⟩=(fns.getD a.toNat fn0).params.length:=by simp [takesN]
  have hT:AllT fns f ⟨9,a,n,tx⟩ tk ↔ tk=(fns.getD a.toNat fn0).params:=by
   rw [eq_iff_get (by rw [hl,hn])]
   have e:∀ z,tkB fns f ⟨9,a,n,tx⟩ z (tk.getD z 0)=decide ((fns.getD a.toNat fn0).params.getD z 0=tk.getD z 0):=fun z=>by simp [tkB]
   constructor
   ·intro h z hz
    have:=h z (by rw [hn];exact hz)
    rw [e] at this
    simpa using this
   ·intro h z hz
    rw [e]
    simpa using h z (by rw [← hn];exact hz)
  have hE:eff fns f ⟨9,a,n,tx⟩ sl tk=whn (tk=(fns.getD a.toNat fn0).params) (if (fns.getD a.toNat fn0).result=0 then [] else [(fns.getD a.toNat fn0).result]):=by simp [eff]
  by_cases hz:(fns.getD a.toNat fn0).result=0
  ·have hP:putR fns ⟨9,a,n,tx⟩ sl tk=([],true):=(if_neg (show ¬ putsT 9=0 by decide)).trans (if_pos ⟨rfl,hz⟩)
   rw [hP,hE,if_pos hz]
   exact ⟨fun h _=>whn_pos (hT.1 h),fun h=>whn_neg fun h9=>h ⟨hT.2 h9,rfl⟩⟩
  ·have hP:putR fns ⟨9,a,n,tx⟩ sl tk=([(fns.getD a.toNat fn0).result],true):=(if_neg (show ¬ putsT 9=0 by decide)).trans ((if_neg fun h=>hz h.2).trans (by
    have e:putK fns ⟨9,a,n,tx⟩ sl tk=(fns.getD a.toNat fn0).result:=rfl
    rw [e]
    have:decide (¬ (fns.getD a.toNat fn0).result=0)=true:=by rw [decide_eq_true_iff];exact hz
    rw [this]))
   rw [hP,hE,if_neg hz]
   exact ⟨fun h _=>whn_pos (hT.1 h),fun h=>whn_neg fun h9=>h ⟨hT.2 h9,rfl⟩⟩
 ·have hT:AllT fns f ⟨10,a,n,tx⟩ tk:=fun z hz=>by simp [takesN] at hz
  have hP:putR fns ⟨10,a,n,tx⟩ sl tk=([],true):=by simp [putR,putsT]
  rw [hP]
  exact ⟨fun _ _=>by simp [eff],fun h=>absurd ⟨hT,rfl⟩ h⟩
 ·have hT:AllT fns f ⟨11,a,n,tx⟩ tk ↔ tk.getD 0 0=1:=by
   have e:tkB fns f ⟨11,a,n,tx⟩ 0 (tk.getD 0 0)=decide ((1:Int)=tk.getD 0 0):=by
    have:tkB fns f ⟨11,a,n,tx⟩ 0 (tk.getD 0 0)=fitK 1 (tk.getD 0 0):=by simp [tkB,takesT]
    rw [this,fit_pos (by decide)]
   constructor
   ·intro h
    have:=h 0 (by simp [takesN])
    rw [e] at this
    exact (by simpa using this:(1:Int)=tk.getD 0 0).symm
   ·intro h z hz
    obtain rfl:z=0:=by simp [takesN] at hz;omega
    rw [e,h];rfl
  have hP:putR fns ⟨11,a,n,tx⟩ sl tk=([],true):=by simp [putR,putsT]
  have hE:eff fns f ⟨11,a,n,tx⟩ sl tk=whn (tk.getD 0 0=1) []:=by simp [eff]
  rw [hP,hE]
  exact ⟨fun h _=>whn_pos (hT.1 h),fun h=>whn_neg fun h9=>h ⟨hT.2 h9,rfl⟩⟩
 ·have hT:AllT fns f ⟨12,a,n,tx⟩ tk ↔ (a=0∨tk.getD 0 0=f.result):=by
   have e:∀ z,tkB fns f ⟨12,a,n,tx⟩ z (tk.getD z 0)=decide (f.result=tk.getD z 0):=fun z=>by simp [tkB]
   have hret:=hi.ret rfl
   dsimp only at hret
   rcases hret with ⟨ha,_⟩ | ⟨ha,_⟩
   ·subst ha
    constructor
    ·intro h
     have:=h 0 (by simp [takesN])
     rw [e] at this
     exact .inr (by simpa using this:f.result=tk.getD 0 0).symm
    ·intro h z hz
     obtain rfl:z=0:=by simp [takesN] at hz;omega
     rw [e]
     rcases h with h | h
     ·cases h
     ·rw [h];simp
   ·subst ha
    constructor
    ·intro _;exact .inl rfl
    ·intro _ z hz;simp [takesN] at hz
  have hP:putR fns ⟨12,a,n,tx⟩ sl tk=([],true):=by simp [putR,putsT]
  have hE:eff fns f ⟨12,a,n,tx⟩ sl tk=whn (a=0∨tk.getD 0 0=f.result) []:=by simp [eff]
  rw [hP,hE]
  exact ⟨fun h _=>whn_pos (hT.1 h),fun h=>whn_neg fun h9=>h ⟨hT.2 h9,rfl⟩⟩
 ·have hT:AllT fns f ⟨13,a,n,tx⟩ tk ↔ tk.getD 0 0=2:=by
   have e:tkB fns f ⟨13,a,n,tx⟩ 0 (tk.getD 0 0)=decide ((2:Int)=tk.getD 0 0):=by
    have:tkB fns f ⟨13,a,n,tx⟩ 0 (tk.getD 0 0)=fitK 2 (tk.getD 0 0):=by simp [tkB,takesT]
    rw [this,fit_pos (by decide)]
   constructor
   ·intro h
    have:=h 0 (by simp [takesN])
    rw [e] at this
    exact (by simpa using this:(2:Int)=tk.getD 0 0).symm
   ·intro h z hz
    obtain rfl:z=0:=by simp [takesN] at hz;omega
    rw [e,h];rfl
  have hP:putR fns ⟨13,a,n,tx⟩ sl tk=([],true):=by simp [putR,putsT]
  have hE:eff fns f ⟨13,a,n,tx⟩ sl tk=whn (tk.getD 0 0=2) []:=by simp [eff]
  rw [hP,hE]
  exact ⟨fun h _=>whn_pos (hT.1 h),fun h=>whn_neg fun h9=>h ⟨hT.2 h9,rfl⟩⟩
 ·have hT:AllT fns f ⟨14,a,n,tx⟩ tk ↔ (tk.getD 0 0=2∧tk.getD 1 0=2):=by
   have e0:tkB fns f ⟨14,a,n,tx⟩ 0 (tk.getD 0 0)=decide ((2:Int)=tk.getD 0 0):=by
    have:tkB fns f ⟨14,a,n,tx⟩ 0 (tk.getD 0 0)=fitK 2 (tk.getD 0 0):=by simp [tkB,takesT]
    rw [this,fit_pos (by decide)]
   have e1:tkB fns f ⟨14,a,n,tx⟩ 1 (tk.getD 1 0)=decide ((2:Int)=tk.getD 1 0):=by
    have:tkB fns f ⟨14,a,n,tx⟩ 1 (tk.getD 1 0)=fitK 2 (tk.getD 1 0):=by simp [tkB,takesT]
    rw [this,fit_pos (by decide)]
   constructor
   ·intro h
    have h0:=h 0 (by simp [takesN])
    have h1:=h 1 (by simp [takesN])
    rw [e0] at h0
    rw [e1] at h1
    exact ⟨(by simpa using h0:(2:Int)=tk.getD 0 0).symm,(by simpa using h1:(2:Int)=tk.getD 1 0).symm⟩
   ·rintro ⟨h0,h1⟩ z hz
    obtain rfl | rfl:z=0∨z=1:=by simp [takesN] at hz;omega
    ·rw [e0,h0];rfl
    ·rw [e1,h1];rfl
  have hP:putR fns ⟨14,a,n,tx⟩ sl tk=([],true):=by simp [putR,putsT]
  have hE:eff fns f ⟨14,a,n,tx⟩ sl tk=whn (tk.getD 0 0=2∧tk.getD 1 0=2) []:=by simp [eff]
  rw [hP,hE]
  exact ⟨fun h _=>whn_pos (hT.1 h),fun h=>whn_neg fun h9=>h ⟨hT.2 h9,rfl⟩⟩
 ·have hT:AllT fns f ⟨15,a,n,tx⟩ tk ↔ tk.getD 0 0=2:=by
   have e:tkB fns f ⟨15,a,n,tx⟩ 0 (tk.getD 0 0)=decide ((2:Int)=tk.getD 0 0):=by
    have:tkB fns f ⟨15,a,n,tx⟩ 0 (tk.getD 0 0)=fitK 2 (tk.getD 0 0):=by simp [tkB,takesT]
    rw [this,fit_pos (by decide)]
   constructor
   ·intro h
    have:=h 0 (by simp [takesN])
    rw [e] at this
    exact (by simpa using this:(2:Int)=tk.getD 0 0).symm
   ·intro h z hz
    obtain rfl:z=0:=by simp [takesN] at hz;omega
    rw [e,h];rfl
  have hP:putR fns ⟨15,a,n,tx⟩ sl tk=([],true):=by simp [putR,putsT]
  have hE:eff fns f ⟨15,a,n,tx⟩ sl tk=whn (tk.getD 0 0=2) []:=by simp [eff]
  rw [hP,hE]
  exact ⟨fun h _=>whn_pos (hT.1 h),fun h=>whn_neg fun h9=>h ⟨hT.2 h9,rfl⟩⟩
 ·have hT:AllT fns f ⟨16,a,n,tx⟩ tk:=fun z hz=>by simp [takesN] at hz
  have hP:putR fns ⟨16,a,n,tx⟩ sl tk=([],true):=by simp [putR,putsT]
  rw [hP]
  exact ⟨fun _ _=>by simp [eff],fun h=>absurd ⟨hT,rfl⟩ h⟩
theorem goes_in {fns:List Fn} {f:Fn} {p:Nat} (hp:p < f.ins.length) (hi:InsR fns f (f.ins.getD p in0)):(∀ g ∈ goes (f.ins.getD p in0) p,g < f.ins.length) ↔ ¬ (f.ins.length:Int) ∈ nums (goes (f.ins.getD p in0) p):=by
 have hle:∀ g ∈ goes (f.ins.getD p in0) p,g≤f.ins.length:=by
  intro g hg
  have hpl:=hi.place
  generalize f.ins.getD p in0=i at hg hpl
  unfold goes at hg
  split at hg
  ·simp at hg
  ·split at hg
   ·rename_i h
    simp at hg
    have:=hpl (.inl h)
    omega
   ·split at hg
    ·rename_i h
     simp at hg
     have:=hpl (.inr h)
     omega
    ·simp at hg
     omega
 unfold nums
 rw [List.mem_map]
 constructor
 ·rintro h ⟨g,hg,e⟩
  have:=h g hg
  omega
 ·intro h g hg
  have h1:=hle g hg
  rcases Nat.lt_or_ge g f.ins.length with h2 | h2
  ·exact h2
  ·exact absurd ⟨g,hg,by omega⟩ h
end Go.Proofs.YtbkmglknbflkhaaGreatDoor.C
