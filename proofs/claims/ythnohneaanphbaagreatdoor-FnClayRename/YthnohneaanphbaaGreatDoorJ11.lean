import Derived.Deep.RegionLaw
import Derived.Deep.RegionHeld3
import Derived.Test.YthnohneaanphbaaGreatDoorJ10
namespace Go.Proofs.YthnohneaanphbaaGreatDoor
open Go.RowKit
theorem leaf_any (R G B:Nat) (kind:Int) (w:World) (ns:List (ByteArray × Int)) (fs:List Fn) (c:Nat) (sz:Int) (p:Nat) (h:GenAt R G B w ns fs c sz p) (hp:p≤1000000) (hn:ns.length≤1000000) :
  Calls Tryz.prog 106 #[.pointer (some ⟨G,0,none⟩),.int .i64 kind] w fun e w'=>LeafEnd R G B 3 20 w ns fs c sz p e w':=by
 have hk:kind=0∨kind=1∨kind=2∨kind=3∨kind=4∨kind < 0∨4 < kind:=by omega
 rcases hk with rfl | rfl | rfl | rfl | rfl | hk
 ·exact leaf0 R G B w ns fs c sz p h hp hn
 ·exact leaf1 R G B w ns fs c sz p h hp hn
 ·exact leaf2 R G B w ns fs c sz p h hp hn
 ·exact leaf3 R G B w ns fs c sz p h hp hn
 ·exact leaf4 R G B w ns fs c sz p h hp hn
 ·exact leaf5 R G B kind w ns fs c sz p h hp hn hk
end Go.Proofs.YthnohneaanphbaaGreatDoor
namespace Go.Proofs.YthnohneaanphbaaGreatDoor
open Go.RowKit
set_option maxRecDepth 20000
structure Gs where
 R:Nat
 G:Nat
 ns:List (ByteArray × Int)
 fs:List Fn
 c:Nat
 sz:Int
 p:Nat
structure Room (C:Nat) (s:Gs):Prop where
 p:s.p+C≤1000000
 c:s.c+C≤1000000
 lo:-1000000≤s.sz - C
 hi:s.sz≤1000
 n:s.ns.length+C≤1000000
 f:s.fs.length≤1000
def At (s:Gs) (C:Nat) (w w':World):Prop:=∃ p' c' sz',s.p≤p'∧p'≤s.p+C∧s.c≤c'∧c'≤s.c+C∧s.sz - C≤sz'∧sz'≤s.sz∧GenAt s.R s.G s.R w' s.ns s.fs c' sz' p'∧Gk s.R w w'
theorem At.refl {s:Gs} {w:World} (h:GenAt s.R s.G s.R w s.ns s.fs s.c s.sz s.p):At s 0 w w:=⟨s.p,s.c,s.sz,Nat.le_refl _,Nat.le_refl _,Nat.le_refl _,Nat.le_refl _,by omega,Int.le_refl _,h,Gk.refl _ _⟩
theorem At.mono {s:Gs} {C C':Nat} {w w':World} (h:At s C w w') (hc:C≤C'):At s C' w w':=by
 obtain ⟨p',c',sz',h1,h2,h3,h4,h5,h6,h7⟩:=h
 exact ⟨p',c',sz',h1,by omega,h3,by omega,by omega,h6,h7⟩
theorem At.gk {s:Gs} {C:Nat} {w w':World} (h:At s C w w'):Gk s.R w w':=by obtain ⟨_,_,_,_,_,_,_,_,_,_,h⟩:=h;exact h
theorem At.next {s:Gs} {C:Nat} {w w1 w2:World} (h:At s C w w1) (hb:Below w1.heap.size w1 w2):At s C w w2:=by
 obtain ⟨p',c',sz',h1,h2,h3,h4,h5,h6,h7,h8⟩:=h
 exact ⟨p',c',sz',h1,h2,h3,h4,h5,h6,h7.next hb,h8.trans (Gk.of_below hb h7.bw)⟩
theorem At.gk_next {s:Gs} {C:Nat} {w w1 w2:World} (h:At s C w w1) (hb:Below w1.heap.size w1 w2):Gk s.R w1 w2:=by
 obtain ⟨p',c',sz',h1,h2,h3,h4,h5,h6,h7,h8⟩:=h
 exact Gk.of_below hb h7.bw
theorem At.g0 {s:Gs} {C:Nat} {w w':World} (h:At s C w w'):w'.cell? ⟨s.G,0,none⟩=some (.pointer (some ⟨s.R,0,none⟩)):=by
 obtain ⟨p',c',sz',h1,h2,h3,h4,h5,h6,h7,h8⟩:=h
 exact h7.g0
theorem pick_at {s:Gs} {C:Nat} {w w':World} (h:At s C w w') (hr:Room C s) (n:Int) (hn:n≤1000000000) :
  Calls Tryz.prog 14 #[.pointer (some ⟨s.R,0,none⟩),.int .i64 n] w' fun e w2=>∃ x:Nat,e=.returned (.int .i64 x)∧(x=0∨(x:Int) < n)∧At s (C+1) w w2∧Gk s.R w' w2:=by
 obtain ⟨p',c',sz',h1,h2,h3,h4,h5,h6,h7,h8⟩:=h
 refine (pick_any s.R p' n w' (by have:=hr.p;omega) hn h7.rd).mono ?_
 rintro e w2 ⟨⟨x,rfl,hx⟩,h9,h10⟩
 obtain ⟨k1,k2⟩:=h7.picked h9 h10
 exact ⟨x,rfl,hx,⟨p'+1,c',sz',by omega,by omega,h3,by omega,by omega,h6,k1,h8.trans k2⟩,k2⟩
theorem fresh_at {s:Gs} {C:Nat} {w w':World} (h:At s C w w') (hr:Room C s) :
  Calls Tryz.prog 107 #[.pointer (some ⟨s.G,0,none⟩)] w' fun e w2=>∃ t:ByteArray,e=.returned (.string t)∧t.size≤100∧At s (C+1) w w2∧Gk s.R w' w2:=by
 obtain ⟨p',c',sz',h1,h2,h3,h4,h5,h6,h7,h8⟩:=h
 refine (fresh_any s.R s.G s.R w' s.ns s.fs c' sz' p' h7 (by have:=hr.c;omega)).mono ?_
 rintro e w2 ⟨⟨t,rfl,ht⟩,k1,k2⟩
 exact ⟨t,rfl,ht,⟨p',c'+1,sz',h1,by omega,by omega,by omega,by omega,h6,k1,h8.trans k2⟩,k2⟩
def NdEnd (s:Gs) (K C:Nat) (w w':World) (e:Ending) (w2:World):Prop:=∃ v l,e=.returned v∧NdIn w2 v l∧NdOk K l∧At s C w w2∧Gk s.R w' w2
theorem leaf_at {s:Gs} {C:Nat} {w w':World} (h:At s C w w') (hr:Room C s) (kind:Int) :
  Calls Tryz.prog 106 #[.pointer (some ⟨s.G,0,none⟩),.int .i64 kind] w' (NdEnd s 3 (C+20) w w'):=by
 obtain ⟨p',c',sz',h1,h2,h3,h4,h5,h6,h7,h8⟩:=h
 refine (leaf_any s.R s.G s.R kind w' s.ns s.fs c' sz' p' h7 (by have:=hr.p;omega) (by have:=hr.n;omega)).mono ?_
 rintro e w2 ⟨⟨v,l,rfl,hv,hl⟩,⟨p2,q1,q2,k1⟩,k2⟩
 exact ⟨v,l,rfl,hv,hl,⟨p2,c',sz',by omega,by omega,h3,by omega,by omega,h6,k1,h8.trans k2⟩,k2⟩
def EOk (d:Int) (K C:Nat):Prop:=∀ (s:Gs) (kind:Int) (w:World),GenAt s.R s.G s.R w s.ns s.fs s.c s.sz s.p→Room (C+10) s →
  Calls Tryz.prog 89 #[.pointer (some ⟨s.G,0,none⟩),.int .i64 kind,.int .i64 d] w (NdEnd s K C w w)
theorem Room.sub {C C':Nat} {s:Gs} (h:Room C s) (hc:C'≤C):Room C' s:=⟨by have:=h.p;omega,by have:=h.c;omega,by have:=h.lo;omega,h.hi,by have:=h.n;omega,h.f⟩
theorem e_at {d:Int} {K Ce:Nat} (he:EOk d K Ce) {s:Gs} {C:Nat} {w w':World} (h:At s C w w') (hr:Room (C+Ce+10) s) (kind:Int) :
  Calls Tryz.prog 89 #[.pointer (some ⟨s.G,0,none⟩),.int .i64 kind,.int .i64 d] w' (NdEnd s K (C+Ce) w w'):=by
 obtain ⟨p',c',sz',h1,h2,h3,h4,h5,h6,h7,h8⟩:=h
 refine (he ⟨s.R,s.G,s.ns,s.fs,c',sz',p'⟩ kind w' h7 ⟨by have:=hr.p;simp only;omega,by have:=hr.c;simp only;omega,by have:=hr.lo;simp only;omega,by have:=hr.hi;simp only;omega,by have:=hr.n;simp only;omega,hr.f⟩).mono ?_
 rintro e w2 ⟨v,l,rfl,hv,hl,⟨p2,c2,sz2,q1,q2,q3,q4,q5,q6,q7,q8⟩,k2⟩
 simp only at q1 q2 q3 q4 q5 q6 q7 q8 k2
 exact ⟨v,l,rfl,hv,hl,⟨p2,c2,sz2,by omega,by omega,by omega,by omega,by omega,by omega,q7,h8.trans q8⟩,k2⟩
theorem info_sn:(Tryz.prog.info? 140).map (fun i=>(i.zero,i.size,i.bytes))=some (some (.agg #[.string ⟨#[]⟩,.int .i64 0]),2,24):=by kernel_rfl
theorem seenRow_append (a b:List (ByteArray × Int)):seenRow (a ++ b)=seenRow a ++ seenRow b:=by
 induction a with
 | nil=>rfl
 | cons x a ih=>simp [seenRow,ih]
theorem seenRow_length (a:List (ByteArray × Int)):(seenRow a).length=a.length * 2:=by
 induction a with
 | nil=>rfl
 | cons x a ih=>simp only [seenRow,List.length_cons,ih];omega
theorem GenAt.names {R G B:Nat} {w:World} {ns ns':List (ByteArray × Int)} {fs:List Fn} {c:Nat} {sz:Int} {p:Nat} (h:GenAt R G B w ns fs c sz p) (v:Value) (hv:w.ownsRow B 140 2 v ns'.length (seenRow ns')) (hn:∀ x ∈ ns',x.1.size≤100):GenAt R G B (w.setCell ⟨G,1,none⟩ v) ns' fs c sz p∧Gk B w (w.setCell ⟨G,1,none⟩ v):=by
 obtain ⟨⟨vn,vf,h1,h2,h3⟩,h4,h5,h6,h7⟩:=h
 have hg:Gk B w (w.setCell ⟨G,1,none⟩ v):=(Gk.refl B w).set h1 (by unfold GenT;decide) (by omega) (by decide) _
 refine ⟨⟨⟨v,vf,?_,own_setG hv h1 (by decide),own_setG h3 h1 (by decide)⟩,?_,h5,hn,fun f hf=>(h7 f hf).gk hg⟩,hg⟩
 ·have:=set_at (i:=1) v h1
  simpa using this
 ·exact h4.sv (S:=fun k=>k=G) (Sv.setCell (S:=fun k=>k=G) (Sv.refl _ w) (p:=⟨G,1,none⟩) (.inl rfl) _) (fun k e=>by subst e;exact h5.2)
theorem GenAt.grown {R G:Nat} {w w':World} {ns:List (ByteArray × Int)} {fs:List Fn} {c:Nat} {sz:Int} {p:Nat} {n:Nat} {e size:Nat} {v:Value} {xs:List Value} (h:GenAt R G R w ns fs c sz p) (hv:w.ownsRow R e size v n xs) (he:e=140) (hg:w.grownBy w' v.ownBlock) :
  (∃ vn vf,w.heap[G]?=some (.cells #[.pointer (some ⟨R,0,none⟩),vn,vf,.int .i64 c,.int .i64 sz] 106 (0,0))∧w'.heap[G]?=some (.cells #[.pointer (some ⟨R,0,none⟩),vn,vf,.int .i64 c,.int .i64 sz] 106 (0,0))∧w'.ownsRow R 148 4 vf fs.length (fnRow fs))∧Rd R w' p∧(∀ f ∈ fs,FnOk w' f)∧Gk R w w':=by
 obtain ⟨⟨vn,vf,h1,h2,h3⟩,h4,h5,h6,h7⟩:=h
 have hlo:∀ k,v.ownBlock=some k→R≤k∧∃ cur,w.heap[k]?=some (.cells cur e (0,0)):=fun k hk=>by
  rcases hv.2 with ⟨rfl,_⟩ | ⟨g,cap,cur,rfl,a,b,_⟩
  ·simp [Value.ownBlock] at hk
  ·simp only [Value.ownBlock,Option.some.injEq] at hk
   subst hk
   exact ⟨a,cur,b⟩
 have keep:∀ (k:Nat) cs t fr,w.heap[k]?=some (.cells cs t fr)→t≠e→w'.heap[k]?=w.heap[k]?:=fun k cs t fr hc ht=>hg.block k (Array.getElem?_eq_some_iff.1 hc).1 fun e2=>by
  obtain ⟨_,cur,hc2⟩:=hlo k e2.symm
  rw [hc] at hc2
  cases hc2
  exact ht rfl
 have hgk:Gk R w w':=⟨hg.os,hg.tape,hg.output,hg.size,fun k hk=>by
   have hR:=h4.lt
   exact hg.block k (by omega) (fun e2=>by have:=(hlo k e2.symm).1;omega),fun k cs t fr hc ht=>keep k cs t fr hc (fun e2=>ht (by subst e2;subst he;unfold GenT;decide)),fun k cs fr hc=>⟨cs,(keep k cs _ fr hc (by rw [he];decide)).trans hc,rfl⟩⟩
 refine ⟨⟨vn,vf,h1,(keep G _ _ _ h1 (by rw [he];decide)).trans h1,?_⟩,?_,fun f hf=>(h7 f hf).gk hgk,hgk⟩
 ·obtain ⟨a1,a2 | ⟨g,cap,cur,b1,b2,b3,b4⟩⟩:=h3
  ·exact ⟨a1,.inl a2⟩
  ·exact ⟨a1,.inr ⟨g,cap,cur,b1,b2,(keep g _ _ _ b3 (by rw [he];decide)).trans b3,b4⟩⟩
 ·obtain ⟨ad,n,cap,r1,r2,r3⟩:=h4
  refine ⟨ad,n,cap,(keep R _ _ _ r1 (by rw [he];decide)).trans r1,r2,?_⟩
  rcases r3 with r3 | ⟨a,e2,r4,r5⟩
  ·exact .inl r3
  ·refine .inr ⟨a,e2,r4,fun i hi=>?_⟩
   obtain ⟨x,hx⟩:=r5 i hi
   refine ⟨x,?_⟩
   have:=hgk.low a.block r4
   rw [← hx]
   exact World.cell?_of_block (w:=w) (a:=a.add i) (h:=by rw [add_block];exact this)
theorem seen_cut {w:World} {B:Nat} {v:Value} {ns:List (ByteArray × Int)} {x:ByteArray × Int} (h:w.ownsRow B 140 2 v (ns ++ [x]).length (seenRow (ns ++ [x]))) :
  ∃ g cap:Nat,v=.slice (some ⟨g,0,none⟩) (ns.length+1) cap∧ns.length≤cap∧cap≤maxLen∧w.ownsRow B 140 2 (.slice (some ⟨g,0,none⟩) ns.length cap) ns.length (seenRow ns):=by
 obtain ⟨a,⟨_,h0⟩ | ⟨g,cap,cur,e,h1,h2,h3,h4,h5,h6⟩⟩:=h
 ·simp at h0
 ·simp only [List.length_append,List.length_cons,List.length_nil] at e h3 h6
  refine ⟨g,cap,e,by omega,h4,seenRow_length ns,.inr ⟨g,cap,cur,rfl,h1,h2,by omega,h4,h5,?_⟩⟩
  have:=congrArg (List.take (ns.length * 2)) h6
  rw [List.take_take,Nat.min_eq_left (by omega),seenRow_append,List.take_left' (seenRow_length ns)] at this
  exact this
theorem gen_set {R G:Nat} {w:World} {ns':List (ByteArray × Int)} {fs:List Fn} {c:Nat} {sz:Int} {p:Nat} {vn vf:Value} (h1:w.heap[G]?=some (.cells #[.pointer (some ⟨R,0,none⟩),vn,vf,.int .i64 c,.int .i64 sz] 106 (0,0))) (h3:w.ownsRow R 148 4 vf fs.length (fnRow fs)) (h4:Rd R w p) (h5:R < G) (h7:∀ f ∈ fs,FnOk w f) (v:Value) (hv:w.ownsRow R 140 2 v ns'.length (seenRow ns')) (hn:∀ x ∈ ns',x.1.size≤100):GenAt R G R (w.setCell ⟨G,1,none⟩ v) ns' fs c sz p∧Gk R w (w.setCell ⟨G,1,none⟩ v):=by
 have hg:Gk R w (w.setCell ⟨G,1,none⟩ v):=(Gk.refl R w).set h1 (by unfold GenT;decide) (by omega) (by decide) _
 refine ⟨⟨⟨v,vf,?_,own_setG hv h1 (by decide),own_setG h3 h1 (by decide)⟩,?_,⟨Nat.le_refl _,h5⟩,hn,fun f hf=>(h7 f hf).gk hg⟩,hg⟩
 ·have:=set_at (i:=1) v h1
  simpa using this
 ·exact h4.sv (S:=fun k=>k=G) (Sv.setCell (S:=fun k=>k=G) (Sv.refl _ w) (p:=⟨G,1,none⟩) (.inl rfl) _) (fun k e=>by subst e;exact h5)
set_option maxHeartbeats 2000000 in
theorem inside_at {d:Int} {K Ce:Nat} (he:EOk d K Ce) {s:Gs} {C:Nat} {w w':World} (h:At s C w w') (hr:Room (C+Ce+11) s) (name:ByteArray) (hn:name.size≤100) (kind want:Int) :
  Calls Tryz.prog 108 #[.pointer (some ⟨s.G,0,none⟩),.string name,.int .i64 kind,.int .i64 want,.int .i64 d] w' (NdEnd s K (C+Ce) w w'):=by
 obtain ⟨R,G,ns,fs,c0,sz0,p0⟩:=s
 obtain ⟨p',c',sz',h1,h2,h3,h4,h5,h6,h7,h8⟩:=h
 simp only at h1 h2 h3 h4 h5 h6 h7 h8 ⊢
 have HG:=hid h7
 have HK0:=hid h8
 have HE:=hid he
 have HR:=hid hr
 have HRN:Hid (p0+(C+Ce+11)≤1000000∧c0+(C+Ce+11)≤1000000∧-1000000≤sz0 - ((C+Ce+11:Nat):Int)∧sz0≤1000∧ns.length+(C+Ce+11)≤1000000):=⟨hr.p,hr.c,hr.lo,hr.hi,hr.n⟩
 have hnl:ns.length≤1000000:=by have:=hr.n;simp only at this;omega
 obtain ⟨i0,hi,hz0,hz1,hz2⟩:=info_parts info_sn
 have HHI:=hid (And.intro hi (And.intro hz0 (And.intro hz1 hz2)))
 have HBD:=hid (And.intro h1 (And.intro h2 (And.intro h3 (And.intro h4 (And.intro h5 h6)))))
 clear hi hz0 hz1 hz2 h8 he hr h1 h2 h3 h4 h5 h6
 obtain ⟨vn,vf,g1,g2,g3⟩:=h7.ex
 have HO:=hid g2
 have x1:=cell_hp g1 1
 simp at x1
 obtain ⟨an,cn,rfl⟩:=own_sl g2
 have HGC:=hid g1
 clear g1 g2 g3 h7
 go_enter Tryz.func108,Tryz.ntmps108
 have hB:R≤w'.heap.size:=HG.out.bw
 have HA:=hid ((Below.refl w'.heap.size w').alloc (Nat.le_refl _) (.cells #[.string name,.int .i64 kind] 140))
 go_wp2_with (at_builtin;refine wpList_append_own _ rfl _ _ 103 rfl R 140 i0 (.agg #[.string ⟨#[]⟩,.int .i64 0]) 2 24 Tryz.underlying103 HHI.out.1 HHI.out.2.1 HHI.out.2.2.1 HHI.out.2.2.2 rfl (by decide) _ _ _ rfl (HO.out.alloc _) ⟨w'.heap.size,0,none⟩ 1 1 [.string name,.int .i64 kind] rfl rfl ?c1 ?c2 ?c3 ?c4 ?c5 ?_)
 case c1 =>
  intro j u hj
  match j,hj with
  | 0,hj=>simp at hj;subst hj;rw [add_none,cell_new_row];rfl
  | 1,hj=>simp at hj;subst hj;rw [add_none,cell_new_row];rfl
 case c2=>intro u hu;simp at hu;rcases hu with rfl | rfl <;> rfl
 case c3=>unfold maxLen;omega
 case c4=>omega
 case c5=>simp;omega
 intro v2 w2 o2 g2 _
 obtain ⟨⟨vn2,vf2,b1,b2,b3⟩,rd2,fk2,gk2⟩:=(HG.out.next HA.out).grown (HO.out.alloc _) rfl g2
 have HG2:=hid (gen_set (ns':=ns ++ [(name,kind)]) b2 b3 rd2 HG.out.le.2 fk2 v2 (by rw [seenRow_append,List.length_append];exact o2) (fun x hx=>by
  rcases List.mem_append.1 hx with hx | hx
  ·exact HG.out.nok x hx
  ·simp at hx;subst hx;exact hn))
 have HK2:=hid ((Gk.of_below HA.out hB).trans (gk2.trans HG2.out.2))
 have y1:=cell_hp b2 1
 have z1:=frozen_hp b2 1
 simp at y1
 obtain ⟨an2,cn2,rfl⟩:=own_sl o2
 clear b1 b2 b3 rd2 fk2 gk2 o2 g2
 go_wp2_with fail
 refine (HE.out ⟨R,G,ns ++ [(name,kind)],fs,c',sz',p'⟩ want _ HG2.out.1 ⟨by have:=HRN.out;have:=HBD.out;show p'+(Ce+10)≤_;omega,by have:=HRN.out;have:=HBD.out;show c'+(Ce+10)≤_;omega,by have:=HRN.out;have:=HBD.out;show _≤sz' - ((Ce+10:Nat):Int);omega,by have:=HRN.out;have:=HBD.out;show sz'≤_;omega,by have:=HRN.out;show (ns ++ [(name,kind)]).length+(Ce+10)≤_;simp only [List.length_append,List.length_cons,List.length_nil];omega,HR.out.f⟩).mono ?_
 rintro e w3 ⟨v3,l3,rfl,n3,ok3,⟨p3,c3,sz3,q1,q2,q3,q4,q5,q6,q7,q8⟩,_⟩
 simp only at q1 q2 q3 q4 q5 q6 q7 q8
 obtain ⟨vn3,vf3,d1,d2,d3⟩:=q7.ex
 obtain ⟨g3,cap3,rfl,hc3,hc4,o3⟩:=seen_cut d2
 have HN3:=hid n3
 have HOK:=hid ok3
 have HG3:=hid (gen_set (ns':=ns) d1 d3 q7.rd HG.out.le.2 q7.fok (.slice (some ⟨g3,0,none⟩) ns.length cap3) o3 HG.out.nok)
 have HK3:=hid (HK2.out.trans (q8.trans HG3.out.2))
 have HQ:=hid (And.intro q1 (And.intro q2 (And.intro q3 (And.intro q4 (And.intro q5 q6)))))
 have y3:=cell_hp d1 1
 have z3:=frozen_hp d1 1
 simp at y3
 have hc5:(ns.length:Int)≤cap3:=by omega
 obtain ⟨ga,ca,rfl⟩:∃ g c,v3=.slice (some ⟨g,0,none⟩) l3.length c:=by obtain ⟨_,g,c,_,e,_⟩:=n3;exact ⟨g,_,e⟩
 clear n3 ok3 q1 q2 q3 q4 q5 q6 q7 q8 d1 d2 d3 o3
 go_wp2
 go_ret
 exact ⟨_,l3,rfl,HN3.out.gk HG3.out.2,HOK.out,⟨p3,c3,sz3,by have:=HBD.out;have:=HQ.out;show p0≤p3;omega,by have:=HBD.out;have:=HQ.out;show p3≤p0+(C+Ce);omega,by have:=HBD.out;have:=HQ.out;show c0≤c3;omega,by have:=HBD.out;have:=HQ.out;show c3≤c0+(C+Ce);omega,by have:=HBD.out;have:=HQ.out;show sz0 - ((C+Ce:Nat):Int)≤sz3;omega,by have:=HBD.out;have:=HQ.out;show sz3≤sz0;omega,HG3.out.1,HK0.out.trans HK3.out⟩,HK3.out⟩
theorem text_at {s:Gs} {C:Nat} {w w':World} (h:At s C w w') (t:ByteArray) (ht:t.size≤1000) :
  Calls Tryz.prog 119 #[.string t] w' (NdEnd s 1 C w w'):=by
 refine (textNode_any t w').mono ?_
 rintro e w2 ⟨v,rfl,h1,h2⟩
 exact ⟨v,_,rfl,h1,NdOk.one ht,h.next h2,h.gk_next h2⟩
theorem int_at {s:Gs} {C:Nat} {w w':World} (h:At s C w w') (n:Int) :
  Calls Tryz.prog 58 #[.int .i64 n] w' (NdEnd s 1 C w w'):=by
 refine (intNode_any n w').mono ?_
 rintro e w2 ⟨v,rfl,h1,h2⟩
 exact ⟨v,_,rfl,h1,NdOk.one (by show (⟨#[]⟩:ByteArray).size≤1000;decide),h.next h2,h.gk_next h2⟩
theorem name_at {s:Gs} {C:Nat} {w w':World} (h:At s C w w') (t:ByteArray) (ht:t.size≤1000) :
  Calls Tryz.prog 121 #[.string t] w' (NdEnd s 1 C w w'):=by
 refine (nameNode_any t w').mono ?_
 rintro e w2 ⟨v,rfl,h1,h2⟩
 exact ⟨v,_,rfl,h1,NdOk.one ht,h.next h2,h.gk_next h2⟩
def Has (K:Nat) (w:World) (v:Value):Prop:=∃ l,NdIn w v l∧NdOk K l
theorem Has.gk {K B:Nat} {w w':World} {v:Value} (h:Has K w v) (hg:Gk B w w'):Has K w' v:=by obtain ⟨l,h1,h2⟩:=h;exact ⟨l,h1.gk hg,h2⟩
theorem Has.sl {K:Nat} {w:World} {v:Value} (h:Has K w v):∃ g n c,v=.slice (some ⟨g,0,none⟩) n c:=by obtain ⟨l,h1,_⟩:=h;exact h1.sl
theorem over1_at {s:Gs} {C Ka:Nat} {w w':World} (h:At s C w w') (x:Nd) (a:Value) (ha:Has Ka w' a) (hx:x.text.size≤1000) (hK:Ka≤100000) :
  Calls Tryz.prog 59 #[.agg #[.int .i64 x.kind,.int .i64 x.op,.int .i64 x.n,.string x.text,.int .i64 x.kids],.slice (some ⟨w'.heap.size,0,none⟩) 1 1] (w'.alloc (.cells #[a] 23)) (NdEnd s (Ka+1) C w w'):=by
 obtain ⟨la,h1,h2⟩:=ha
 refine (over1 x a la w' h1 (by have:=h2.1;omega)).mono ?_
 rintro e w2 ⟨v,rfl,h3,h4⟩
 exact ⟨v,_,rfl,h3,h2.over hx,h.next h4,h.gk_next h4⟩
theorem over2_at {s:Gs} {C Ka Kb:Nat} {w w':World} (h:At s C w w') (x:Nd) (a b:Value) (ha:Has Ka w' a) (hb:Has Kb w' b) (hx:x.text.size≤1000) (hK:Ka+Kb≤100000) :
  Calls Tryz.prog 59 #[.agg #[.int .i64 x.kind,.int .i64 x.op,.int .i64 x.n,.string x.text,.int .i64 x.kids],.slice (some ⟨w'.heap.size,0,none⟩) 2 2] (w'.alloc (.cells #[a,b] 23)) (NdEnd s (Ka+Kb+1) C w w'):=by
 obtain ⟨la,h1,h2⟩:=ha
 obtain ⟨lb,h5,h6⟩:=hb
 refine (over2 x a b la lb w' h1 h5 (by have:=h2.1;have:=h6.1;omega)).mono ?_
 rintro e w2 ⟨v,rfl,h3,h4⟩
 exact ⟨v,_,rfl,h3,(h2.app h6).over hx,h.next h4,h.gk_next h4⟩
theorem over3_at {s:Gs} {C Ka Kb Kc:Nat} {w w':World} (h:At s C w w') (x:Nd) (a b c:Value) (ha:Has Ka w' a) (hb:Has Kb w' b) (hc:Has Kc w' c) (hx:x.text.size≤1000) (hK:Ka+Kb+Kc≤100000) :
  Calls Tryz.prog 59 #[.agg #[.int .i64 x.kind,.int .i64 x.op,.int .i64 x.n,.string x.text,.int .i64 x.kids],.slice (some ⟨w'.heap.size,0,none⟩) 3 3] (w'.alloc (.cells #[a,b,c] 23)) (NdEnd s (Ka+Kb+Kc+1) C w w'):=by
 obtain ⟨la,h1,h2⟩:=ha
 obtain ⟨lb,h5,h6⟩:=hb
 obtain ⟨lc,h7,h8⟩:=hc
 refine (over3 x a b c la lb lc w' h1 h5 h7 (by have:=h2.1;have:=h6.1;have:=h8.1;omega)).mono ?_
 rintro e w2 ⟨v,rfl,h3,h4⟩
 exact ⟨v,_,rfl,h3,((h2.app h6).app h8).over hx,h.next h4,h.gk_next h4⟩
theorem bin_at {s:Gs} {C Ka Kb:Nat} {w w':World} (h:At s C w w') (op:Int) (a b:Value) (ha:Has Ka w' a) (hb:Has Kb w' b) (hK:Ka+Kb≤100000) :
  Calls Tryz.prog 123 #[.int .i64 op,a,b] w' (NdEnd s (Ka+Kb+1) C w w'):=by
 obtain ⟨la,h1,h2⟩:=ha
 obtain ⟨lb,h5,h6⟩:=hb
 refine (binNode_any op a b la lb w' h1 h5 (by have:=h2.1;have:=h6.1;omega)).mono ?_
 rintro e w2 ⟨v,rfl,h3,h4⟩
 exact ⟨v,_,rfl,h3,(h2.app h6).over (by show (⟨#[]⟩:ByteArray).size≤1000;decide),h.next h4,h.gk_next h4⟩
theorem parts_new {w':World} {xs:List Value} {ls:List (List Nd)} (hl:xs.length=ls.length) (h:∀ (j:Nat) u l,xs[j]?=some u→ls[j]?=some l→NdIn w' u l):PartsIn (w'.alloc (.cells xs.toArray 23)) (some ⟨w'.heap.size,0,none⟩) xs ls :=
 ⟨hl,.inr ⟨w'.heap.size,rfl,_,heap_alloc_new w' _,fun j u hu=>by simpa using hu⟩,fun j u l hu hl=>(h j u l hu hl).next ((Below.refl _ _).alloc (Nat.le_refl _) _)⟩
theorem callN_at {s:Gs} {C n K:Nat} {w w':World} (h:At s C w w') (t:ByteArray) (xs:List Value) (ls:List (List Nd)) (hn:xs.length=n) (hn2:n≤100) (hl:xs.length=ls.length) (hh:∀ (j:Nat) u l,xs[j]?=some u→ls[j]?=some l→NdIn w' u l) (h0:xs≠[]) (hok:NdOk K ls.flatten) (ht:t.size≤1000) (hK:K≤100000) :
  Calls Tryz.prog 122 #[.string t,.slice (some ⟨w'.heap.size,0,none⟩) n n] (w'.alloc (.cells xs.toArray 23)) (NdEnd s (K+2) C w w'):=by
 have hb:=(Below.refl w'.heap.size w').alloc (Nat.le_refl _) (.cells xs.toArray 23)
 refine (callNode_any t w'.heap.size n xs ls _ hn hn2 (parts_new hl hh) h0 (by have:=hok.1;omega)).mono ?_
 rintro e w2 ⟨v,rfl,h3,h4⟩
 have hb2:=hb.trans (h4.mono hb.size)
 refine ⟨v,_,rfl,h3,?_,h.next hb2,h.gk_next hb2⟩
 exact ((NdOk.one (x:=⟨5,0,0,t,0⟩) ht).app hok |>.over (x:=⟨12,0,0,⟨#[]⟩,n+1⟩) (by show (⟨#[]⟩:ByteArray).size≤1000;decide)).mono (by omega)
theorem call1_at {s:Gs} {C Ka:Nat} {w w':World} (h:At s C w w') (t:ByteArray) (a:Value) (ha:Has Ka w' a) (ht:t.size≤1000) (hK:Ka≤100000) :
  Calls Tryz.prog 122 #[.string t,.slice (some ⟨w'.heap.size,0,none⟩) 1 1] (w'.alloc (.cells #[a] 23)) (NdEnd s (Ka+2) C w w'):=by
 obtain ⟨la,h1,h2⟩:=ha
 refine callN_at h t [a] [la] rfl (by omega) rfl (fun j u l hu hl=>?_) (by simp) (by simpa using h2) ht hK
 match j,hu,hl with
 | 0,hu,hl=>cases hu;cases hl;exact h1
theorem call2_at {s:Gs} {C Ka Kb:Nat} {w w':World} (h:At s C w w') (t:ByteArray) (a b:Value) (ha:Has Ka w' a) (hb:Has Kb w' b) (ht:t.size≤1000) (hK:Ka+Kb≤100000) :
  Calls Tryz.prog 122 #[.string t,.slice (some ⟨w'.heap.size,0,none⟩) 2 2] (w'.alloc (.cells #[a,b] 23)) (NdEnd s (Ka+Kb+2) C w w'):=by
 obtain ⟨la,h1,h2⟩:=ha
 obtain ⟨lb,h3,h4⟩:=hb
 refine callN_at h t [a,b] [la,lb] rfl (by omega) rfl (fun j u l hu hl=>?_) (by simp) (by simpa using h2.app h4) ht hK
 match j,hu,hl with
 | 0,hu,hl=>cases hu;cases hl;exact h1
 | 1,hu,hl=>cases hu;cases hl;exact h3
theorem call3_at {s:Gs} {C Ka Kb Kc:Nat} {w w':World} (h:At s C w w') (t:ByteArray) (a b c:Value) (ha:Has Ka w' a) (hb:Has Kb w' b) (hc:Has Kc w' c) (ht:t.size≤1000) (hK:Ka+Kb+Kc≤100000) :
  Calls Tryz.prog 122 #[.string t,.slice (some ⟨w'.heap.size,0,none⟩) 3 3] (w'.alloc (.cells #[a,b,c] 23)) (NdEnd s (Ka+Kb+Kc+2) C w w'):=by
 obtain ⟨la,h1,h2⟩:=ha
 obtain ⟨lb,h3,h4⟩:=hb
 obtain ⟨lc,h5,h6⟩:=hc
 refine callN_at h t [a,b,c] [la,lb,lc] rfl (by omega) rfl (fun j u l hu hl=>?_) (by simp) (by have:=(h2.app h4).app h6;simpa [List.append_assoc] using this) ht hK
 match j,hu,hl with
 | 0,hu,hl=>cases hu;cases hl;exact h1
 | 1,hu,hl=>cases hu;cases hl;exact h3
 | 2,hu,hl=>cases hu;cases hl;exact h5
theorem NdEnd.get {s:Gs} {K C:Nat} {w w':World} {e:Ending} {w2:World} (h:NdEnd s K C w w' e w2):∃ g n c,e=.returned (.slice (some ⟨g,0,none⟩) n c)∧Has K w2 (.slice (some ⟨g,0,none⟩) n c)∧At s C w w2∧Gk s.R w' w2:=by
 obtain ⟨v,l,rfl,h1,h2,h3,h4⟩:=h
 obtain ⟨g,n,c,rfl⟩:=h1.sl
 exact ⟨g,n,c,rfl,⟨l,h1,h2⟩,h3,h4⟩
theorem Has.fin {s:Gs} {K C K' C':Nat} {w w' w2:World} {v:Value} (h:Has K w2 v) (ha:At s C w w2) (hg:Gk s.R w' w2) (hK:K≤K') (hC:C≤C'):NdEnd s K' C' w w' (.returned v) w2:=by
 obtain ⟨l,h1,h2⟩:=h
 exact ⟨v,l,rfl,h1,h2.mono hK,ha.mono hC,hg⟩
theorem lit_cell {B:Nat} {W w5:World} {cs:Array Value} {t:TypeId} {i:Nat} (hg:Gk B (W.alloc (.cells cs t)) w5) (ht:¬ GenT t):w5.cell? ⟨W.heap.size,i,none⟩=cs[i]?:=by
 have h0:=heap_alloc_new W (.cells cs t)
 exact cell_hp ((hg.block _ cs t (0,0) h0 ht).trans h0) i
theorem step_enter {P:Program} {ops:Array Oper} {o:Oper} {a:Act} {w:World} {K:Act→World→Prop} {Q:Exit→Act→World→Prop} {E:Prop} (hg:o.guard=none) {f:FuncId} {vals:Array Value}
  (hx:(execOp a.eval o).run P w=.ok (.enter f vals) w) {Q':Ending→World→Prop} (hc:Calls P f vals w Q') (h:∀ e w',Q' e w'→∃ v,e=.returned v∧K (a.put o.dst v) w') :
  if Region.wanted o (yielded ops a.tmps)=true then Oper.wp P o a w K Q else E:=by
 have hw:Region.wanted o (yielded ops a.tmps)=true:=by simp [Region.wanted,hg]
 rw [if_pos hw]
 unfold Oper.wp
 rw [hx,Oper.upon_enter]
 refine hc.mono fun e w' hq=>?_
 obtain ⟨v,rfl,hk⟩:=h e w' hq
 exact hk
def IsTwo (a b:ByteArray) (x:Nat) (o:Option Value):Prop:=o=[a,b][x]?.map Value.string
theorem two_of {a b:ByteArray} {x:Nat} (hx:x < 2) (ha:a.size≤1000) (hb:b.size≤1000):∃ y:ByteArray,y.size≤1000∧∀ (W:World) (p:Addr),IsTwo a b x (W.cell? p)→W.cell? p=some (.string y):=by
 have h7:x=0∨x=1:=by omega
 rcases h7 with rfl | rfl
 ·exact ⟨a,ha,fun _ _ h=>h⟩
 ·exact ⟨b,hb,fun _ _ h=>h⟩
theorem lit_two {B:Nat} {W w5:World} {t:TypeId} {a b:ByteArray} {x:Nat} (hg:Gk B (W.alloc (.cells #[.string a,.string b] t)) w5) (ht:¬ GenT t) (hx:x < 2) :
  IsTwo a b x (w5.cell? ⟨W.heap.size,x,none⟩)∧∀ w6,Gk B w5 w6→IsTwo a b x (w6.cell? ⟨W.heap.size,x,none⟩):=by
 have k:∀ w6,Gk B (W.alloc (.cells #[.string a,.string b] t)) w6→IsTwo a b x (w6.cell? ⟨W.heap.size,x,none⟩):=fun w6 h=>by
  rw [lit_cell h ht]
  have h7:x=0∨x=1:=by omega
  rcases h7 with rfl | rfl <;> rfl
 exact ⟨k _ hg,fun w6 h=>k _ (hg.trans h)⟩
theorem lit_new (W:World) {t:TypeId} {a b:ByteArray} {x:Nat} (hx:x < 2):IsTwo a b x ((W.alloc (.cells #[.string a,.string b] t)).cell? ⟨W.heap.size,x,none⟩):=by
 rw [cell_new_row]
 have h7:x=0∨x=1:=by omega
 rcases h7 with rfl | rfl <;> rfl
theorem over1_in {s:Gs} {C Ka g:Nat} {w W:World} (h:At s C w W) (x:Nd) (a:Value) (hg:W.heap[g]?=some (.cells #[a] 23 (0,0))) (ha:Has Ka W a) (hx:x.text.size≤1000) (hK:Ka≤100000) :
  Calls Tryz.prog 59 #[.agg #[.int .i64 x.kind,.int .i64 x.op,.int .i64 x.n,.string x.text,.int .i64 x.kids],.slice (some ⟨g,0,none⟩) 1 1] W (NdEnd s (Ka+1) C w W):=by
 obtain ⟨la,h1,h2⟩:=ha
 refine (l2Over_any x (some ⟨g,0,none⟩) 1 1 [a] [la] W rfl (by omega) ⟨rfl,.inr ⟨g,rfl,_,hg,fun j u hu=>by simpa using hu⟩,fun j u l hu hl=>?_⟩ (by have:=h2.1;simp;omega)).mono ?_
 ·match j,hu,hl with
  | 0,hu,hl=>cases hu;cases hl;exact h1
 rintro e w2 ⟨v,rfl,h3,h4⟩
 exact ⟨v,_,rfl,h3,(show NdOk (Ka+1) _ from (NdOk.over (x:=_) (by simpa using h2) hx)),h.next h4,h.gk_next h4⟩
theorem call1_in {s:Gs} {C Ka g:Nat} {w W:World} (h:At s C w W) (t:ByteArray) (a:Value) (hg:W.heap[g]?=some (.cells #[a] 23 (0,0))) (ha:Has Ka W a) (ht:t.size≤1000) (hK:Ka≤100000) :
  Calls Tryz.prog 122 #[.string t,.slice (some ⟨g,0,none⟩) 1 1] W (NdEnd s (Ka+2) C w W):=by
 obtain ⟨la,h1,h2⟩:=ha
 refine (callNode_any t g 1 [a] [la] W rfl (by omega) ⟨rfl,.inr ⟨g,rfl,_,hg,fun j u hu=>by simpa using hu⟩,fun j u l hu hl=>?_⟩ (by simp) (by have:=h2.1;simp;omega)).mono ?_
 ·match j,hu,hl with
  | 0,hu,hl=>cases hu;cases hl;exact h1
 rintro e w2 ⟨v,rfl,h3,h4⟩
 refine ⟨v,_,rfl,h3,?_,h.next h4,h.gk_next h4⟩
 exact ((NdOk.one (x:=⟨5,0,0,t,0⟩) ht).app (by simpa using h2) |>.over (x:=⟨12,0,0,⟨#[]⟩,1+1⟩) (by show (⟨#[]⟩:ByteArray).size≤1000;decide)).mono (by omega)
theorem nd_box {B:Nat} {W w5:World} {x:Nd} (hg:Gk B (W.alloc (.cells #[.int .i64 x.kind,.int .i64 x.op,.int .i64 x.n,.string x.text,.int .i64 x.kids] 35)) w5) :
  w5.cell? ⟨W.heap.size,0,none⟩=some (.int .i64 x.kind)∧w5.cell? ⟨W.heap.size,1,none⟩=some (.int .i64 x.op)∧w5.cell? ⟨W.heap.size,2,none⟩=some (.int .i64 x.n)∧w5.cell? ⟨W.heap.size,3,none⟩=some (.string x.text)∧w5.cell? ⟨W.heap.size,4,none⟩=some (.int .i64 x.kids) :=
 have ht:¬ GenT 35:=by unfold GenT;decide
 ⟨lit_cell hg ht,lit_cell hg ht,lit_cell hg ht,lit_cell hg ht,lit_cell hg ht⟩
set_option maxHeartbeats 4000000 in
theorem each_at {d:Int} {K Ce:Nat} (he:EOk (d - 1) K Ce) (hK:K≤10000) (hd:1≤d) (hd2:d≤10) (s:Gs) (C:Nat) (w w':World) (h:At s C w w') (hr:Room (C+3 * Ce+50) s) (kind:Int) :
  Calls Tryz.prog 124 #[.pointer (some ⟨s.G,0,none⟩),.int .i64 kind,.int .i64 d] w' (NdEnd s (3 * K+8) (C+3 * Ce+20) w w'):=by
 have HE:=hid he
 have HA0:=hid h
 have HK0:=hid (Gk.refl s.R w')
 have HR:=hid hr
 clear he h hr
 go_enter Tryz.func124,Tryz.ntmps124
 go_wp2_with fail
 refine (fresh_at HA0.out (HR.out.sub (by omega))).mono ?_
 rintro e w1 ⟨tv,rfl,htv,at0,gk0⟩
 have HT:=hid htv
 clear htv
 have HA1:=hid at0
 have HK1:=hid (HK0.out.trans gk0)
 clear at0 gk0
 have HV2:=hid ((Below.refl w1.heap.size w1).alloc (Nat.le_refl _) (.cells #[.int .i64 16,.int .i64 0,.int .i64 0,.string tv,.int .i64 0] 35))
 have at0:=HA1.out.next HV2.out
 have gk0:=HA1.out.gk_next HV2.out
 have HBX:=hid (Gk.refl s.R (w1.alloc (.cells #[.int .i64 16,.int .i64 0,.int .i64 0,.string tv,.int .i64 0] 35)))
 have HA2:=hid at0
 have HK2:=hid (HK1.out.trans gk0)
 clear at0 gk0
 go_wp2_with fail
 refine (e_at HE.out HA2.out (HR.out.sub (by omega)) _).mono ?_
 rintro e w3 hh
 obtain ⟨g3,n3,k3,rfl,l0,at0,gk0⟩:=hh.get
 clear hh
 have HBX:=hid (HBX.out.trans gk0)
 have HA3:=hid at0
 have HK3:=hid (HK2.out.trans gk0)
 clear at0 gk0
 have HL3:=hid l0
 clear l0
 have hg3:=HA3.out.g0
 go_wp2_with fail
 refine (pick_at HA3.out (HR.out.sub (by omega)) 3 (by omega)).mono ?_
 rintro e w4 ⟨x4,rfl,hx4,at0,gk0⟩
 have hy4:x4 < 3:=by omega
 have hz4:(x4:Int) < 3:=by omega
 clear hx4
 have HBX:=hid (HBX.out.trans gk0)
 have HA4:=hid at0
 have HK4:=hid (HK3.out.trans gk0)
 have HL3:=hid (HL3.out.gk gk0)
 clear at0 gk0
 clear hg3
 have hf4:x4=0∨((x4:Int) == 0)=false:=by rcases Nat.eq_zero_or_pos x4 with h | h;exact .inl h;exact .inr (by simp;omega)
 rcases hf4 with rfl | hf4
 ·have hg4:=HA4.out.g0
  go_wp2_with fail
  refine (pick_at HA4.out (HR.out.sub (by omega)) 5 (by omega)).mono ?_
  rintro e w5 ⟨x5,rfl,hx5,at0,gk0⟩
  have hy5:x5 < 5:=by omega
  have hz5:(x5:Int) < 5:=by omega
  clear hx5
  have HBX:=hid (HBX.out.trans gk0)
  have HA5:=hid at0
  have HK5:=hid (HK4.out.trans gk0)
  have HL3:=hid (HL3.out.gk gk0)
  clear at0 gk0
  clear hg4
  go_wp2_with fail
  refine (int_at HA5.out _).mono ?_
  rintro e w6 hh
  obtain ⟨g6,n6,k6,rfl,l0,at0,gk0⟩:=hh.get
  clear hh
  have HBX:=hid (HBX.out.trans gk0)
  have HA6:=hid at0
  have HK6:=hid (HK5.out.trans gk0)
  have HL3:=hid (HL3.out.gk gk0)
  clear at0 gk0
  have HL6:=hid l0
  clear l0
  go_wp2_with fail
  refine (call1_at HA6.out ⟨#[114,97,110,103,101]⟩ _ HL6.out (by decide) (by omega)).mono ?_
  rintro e w7 hh
  obtain ⟨g7,n7,k7,rfl,l0,at0,gk0⟩:=hh.get
  clear hh
  clear HL6
  have HBX:=hid (HBX.out.trans gk0)
  have HA7:=hid at0
  have HK7:=hid (HK6.out.trans gk0)
  have HL3:=hid (HL3.out.gk gk0)
  clear at0 gk0
  have HL7:=hid l0
  clear l0
  clear HL3
  go_wp2_with fail
  refine (inside_at HE.out HA7.out (HR.out.sub (by omega)) tv HT.out _ _).mono ?_
  rintro e w8 hh
  obtain ⟨g8,n8,k8,rfl,l0,at0,gk0⟩:=hh.get
  clear hh
  have HBX:=hid (HBX.out.trans gk0)
  have HA8:=hid at0
  have HK8:=hid (HK7.out.trans gk0)
  have HL7:=hid (HL7.out.gk gk0)
  clear at0 gk0
  have HL8:=hid l0
  clear l0
  have hg8:=HA8.out.g0
  go_wp2_with fail
  refine (pick_at HA8.out (HR.out.sub (by omega)) 2 (by omega)).mono ?_
  rintro e w9 ⟨x9,rfl,hx9,at0,gk0⟩
  have hy9:x9 < 2:=by omega
  have hz9:(x9:Int) < 2:=by omega
  clear hx9
  have HBX:=hid (HBX.out.trans gk0)
  have HA9:=hid at0
  have HK9:=hid (HK8.out.trans gk0)
  have HL7:=hid (HL7.out.gk gk0)
  have HL8:=hid (HL8.out.gk gk0)
  clear at0 gk0
  clear hg8
  have hf9:x9=0∨((x9:Int) == 0)=false:=by rcases Nat.eq_zero_or_pos x9 with h | h;exact .inl h;exact .inr (by simp;omega)
  rcases hf9 with rfl | hf9
  ·obtain ⟨p0,p1,p2,p3,p4⟩:=nd_box (x:=⟨16,0,0,tv,0⟩) HBX.out
   go_wp2_with fail
   refine (over2_at HA9.out ⟨16,0,0,tv,0⟩ _ _ HL7.out HL8.out (by have:=HT.out;show tv.size≤1000;omega) (by omega)).mono ?_
   rintro e w10 hh
   obtain ⟨g10,n10,k10,rfl,l0,at0,gk0⟩:=hh.get
   clear hh
   clear HL7
   clear HL8
   have HBX:=hid (HBX.out.trans gk0)
   have HA10:=hid at0
   have HK10:=hid (HK9.out.trans gk0)
   clear at0 gk0
   have HL10:=hid l0
   clear l0
   go_wp2
   go_ret
   exact HL10.out.fin HA10.out HK10.out (by omega) (by omega)
  ·have HSB:Hid (∀ W,Gk s.R (w1.alloc (.cells #[.int .i64 16,.int .i64 0,.int .i64 0,.string tv,.int .i64 0] 35)) W→W.cell? ⟨w1.heap.size,0,none⟩=some (.int .i64 16)∧W.cell? ⟨w1.heap.size,1,none⟩=some (.int .i64 0)∧W.cell? ⟨w1.heap.size,2,none⟩=some (.int .i64 0)∧W.cell? ⟨w1.heap.size,3,none⟩=some (.string tv)∧W.cell? ⟨w1.heap.size,4,none⟩=some (.int .i64 0)):=fun W hW=>nd_box (x:=⟨16,0,0,tv,0⟩) hW
   obtain ⟨p0,p1,p2,p3,p4⟩:=HSB.out _ HBX.out
   have hwd:IntKind.i64.wrap (d - 1)=d - 1:=by rw [IntKind.wrap_i64];omega
   have HV11:=hid ((Below.refl w9.heap.size w9).drew)
   have HA11:=hid (HA9.out.next HV11.out)
   have HG11:=hid (HA9.out.gk_next HV11.out)
   go_wp2_with fail
   go_region_held3 (fun W=>W.cell? ⟨w1.heap.size,0,none⟩=some (.int .i64 16)∧W.cell? ⟨w1.heap.size,1,none⟩=some (.int .i64 0)∧W.cell? ⟨w1.heap.size,2,none⟩=some (.int .i64 0)∧W.cell? ⟨w1.heap.size,3,none⟩=some (.string tv)∧W.cell? ⟨w1.heap.size,4,none⟩=some (.int .i64 0)) (first | (exact HSB.out _ HGC.out) | (exact HSB.out _ HGB.out) | go_keep) (first
    | (have hgate:=HLX.out;clear hgate;go_at_call 59;refine (over3_at HAX.out ⟨16,0,0,tv,0⟩ _ _ _ HLP.out HLQ.out HLX.out (by have:=HT.out;show tv.size≤1000;omega) (by omega)).mono ?_;rintro e wy hh;have hq:=hh.get;obtain ⟨gy,ny,ky,rfl,l0,at0,gk0⟩:=hq;have HAY:=hid at0;have HKY:=hid (HKX.out.trans gk0);have HLY:=hid l0;have HGC:=hid (HGB.out.trans gk0);clear hh l0 at0 gk0)
    | (go_at_call 108;refine (inside_at HE.out HA11.out (HR.out.sub (by omega)) tv HT.out _ _).mono ?_;rintro e wx hh;have hq:=hh.get;obtain ⟨gx,nx,kx,rfl,l0,at0,gk0⟩:=hq;have HAX:=hid at0;have HKX:=hid (HK9.out.trans (HG11.out.trans gk0));have HLX:=hid l0;have HGB:=hid (HBX.out.trans (HG11.out.trans gk0));have HLP:=hid (HL7.out.gk (HG11.out.trans gk0));have HLQ:=hid (HL8.out.gk (HG11.out.trans gk0));clear hh l0 at0 gk0))
   go_wp2
   go_ret
   exact HLY.out.fin HAY.out HKY.out (by omega) (by omega)
 ·go_wp2_with fail
  refine (inside_at HE.out HA4.out (HR.out.sub (by omega)) tv HT.out _ _).mono ?_
  rintro e w5 hh
  obtain ⟨g5,n5,k5,rfl,l0,at0,gk0⟩:=hh.get
  clear hh
  have HBX:=hid (HBX.out.trans gk0)
  have HA5:=hid at0
  have HK5:=hid (HK4.out.trans gk0)
  have HL3:=hid (HL3.out.gk gk0)
  clear at0 gk0
  have HL5:=hid l0
  clear l0
  have hg5:=HA5.out.g0
  go_wp2_with fail
  refine (pick_at HA5.out (HR.out.sub (by omega)) 2 (by omega)).mono ?_
  rintro e w6 ⟨x6,rfl,hx6,at0,gk0⟩
  have hy6:x6 < 2:=by omega
  have hz6:(x6:Int) < 2:=by omega
  clear hx6
  have HBX:=hid (HBX.out.trans gk0)
  have HA6:=hid at0
  have HK6:=hid (HK5.out.trans gk0)
  have HL3:=hid (HL3.out.gk gk0)
  have HL5:=hid (HL5.out.gk gk0)
  clear at0 gk0
  clear hg5
  have hf6:x6=0∨((x6:Int) == 0)=false:=by rcases Nat.eq_zero_or_pos x6 with h | h;exact .inl h;exact .inr (by simp;omega)
  rcases hf6 with rfl | hf6
  ·obtain ⟨p0,p1,p2,p3,p4⟩:=nd_box (x:=⟨16,0,0,tv,0⟩) HBX.out
   go_wp2_with fail
   refine (over2_at HA6.out ⟨16,0,0,tv,0⟩ _ _ HL3.out HL5.out (by have:=HT.out;show tv.size≤1000;omega) (by omega)).mono ?_
   rintro e w7 hh
   obtain ⟨g7,n7,k7,rfl,l0,at0,gk0⟩:=hh.get
   clear hh
   clear HL3
   clear HL5
   have HBX:=hid (HBX.out.trans gk0)
   have HA7:=hid at0
   have HK7:=hid (HK6.out.trans gk0)
   clear at0 gk0
   have HL7:=hid l0
   clear l0
   go_wp2
   go_ret
   exact HL7.out.fin HA7.out HK7.out (by omega) (by omega)
  ·have HSB:Hid (∀ W,Gk s.R (w1.alloc (.cells #[.int .i64 16,.int .i64 0,.int .i64 0,.string tv,.int .i64 0] 35)) W→W.cell? ⟨w1.heap.size,0,none⟩=some (.int .i64 16)∧W.cell? ⟨w1.heap.size,1,none⟩=some (.int .i64 0)∧W.cell? ⟨w1.heap.size,2,none⟩=some (.int .i64 0)∧W.cell? ⟨w1.heap.size,3,none⟩=some (.string tv)∧W.cell? ⟨w1.heap.size,4,none⟩=some (.int .i64 0)):=fun W hW=>nd_box (x:=⟨16,0,0,tv,0⟩) hW
   obtain ⟨p0,p1,p2,p3,p4⟩:=HSB.out _ HBX.out
   have hwd:IntKind.i64.wrap (d - 1)=d - 1:=by rw [IntKind.wrap_i64];omega
   have HV11:=hid ((Below.refl w6.heap.size w6).drew)
   have HA11:=hid (HA6.out.next HV11.out)
   have HG11:=hid (HA6.out.gk_next HV11.out)
   go_wp2_with fail
   go_region_held3 (fun W=>W.cell? ⟨w1.heap.size,0,none⟩=some (.int .i64 16)∧W.cell? ⟨w1.heap.size,1,none⟩=some (.int .i64 0)∧W.cell? ⟨w1.heap.size,2,none⟩=some (.int .i64 0)∧W.cell? ⟨w1.heap.size,3,none⟩=some (.string tv)∧W.cell? ⟨w1.heap.size,4,none⟩=some (.int .i64 0)) (first | (exact HSB.out _ HGC.out) | (exact HSB.out _ HGB.out) | go_keep) (first
    | (have hgate:=HLX.out;clear hgate;go_at_call 59;refine (over3_at HAX.out ⟨16,0,0,tv,0⟩ _ _ _ HLP.out HLQ.out HLX.out (by have:=HT.out;show tv.size≤1000;omega) (by omega)).mono ?_;rintro e wy hh;have hq:=hh.get;obtain ⟨gy,ny,ky,rfl,l0,at0,gk0⟩:=hq;have HAY:=hid at0;have HKY:=hid (HKX.out.trans gk0);have HLY:=hid l0;have HGC:=hid (HGB.out.trans gk0);clear hh l0 at0 gk0)
    | (go_at_call 108;refine (inside_at HE.out HA11.out (HR.out.sub (by omega)) tv HT.out _ _).mono ?_;rintro e wx hh;have hq:=hh.get;obtain ⟨gx,nx,kx,rfl,l0,at0,gk0⟩:=hq;have HAX:=hid at0;have HKX:=hid (HK6.out.trans (HG11.out.trans gk0));have HLX:=hid l0;have HGB:=hid (HBX.out.trans (HG11.out.trans gk0));have HLP:=hid (HL3.out.gk (HG11.out.trans gk0));have HLQ:=hid (HL5.out.gk (HG11.out.trans gk0));clear hh l0 at0 gk0))
   go_wp2
   go_ret
   exact HLY.out.fin HAY.out HKY.out (by omega) (by omega)
def Parts (w w':World) (v:Value) (n N:Nat):Prop:=∃ (xs:List Value) (ls:List (List Nd)),xs.length=n∧w'.ownsRow w.heap.size 23 1 v n xs∧xs.length=ls.length∧(∀ (j:Nat) u l,xs[j]?=some u→ls[j]?=some l→NdIn w' u l)∧NdOk N ls.flatten
theorem Parts.gk {B:Nat} {w w1 w2:World} {v:Value} {n N:Nat} (h:Parts w w1 v n N) (hg:Gk B w1 w2):Parts w w2 v n N:=by
 obtain ⟨xs,ls,h1,h2,h3,h4,h5⟩:=h
 refine ⟨xs,ls,h1,?_,h3,fun j u l hu hl=>(h4 j u l hu hl).gk hg,h5⟩
 obtain ⟨a1,a2 | ⟨g,cap,cur,b1,b2,b3,b4⟩⟩:=h2
 ·exact ⟨a1,.inl a2⟩
 ·exact ⟨a1,.inr ⟨g,cap,cur,b1,b2,(hg.block g _ _ _ b3 (by unfold GenT;decide)).trans b3,b4⟩⟩
theorem At.parted {s:Gs} {C:Nat} {w w1 w2:World} {v:Value} {n:Nat} {xs:List Value} (h:At s C w w1) (hv:w1.ownsRow w.heap.size 23 1 v n xs) (hg:w1.grownBy w2 v.ownBlock) :
  At s C w w2∧∀ u l,NdIn w1 u l→NdIn w2 u l:=by
 obtain ⟨p',c',sz',h1,h2,h3,h4,h5,h6,h7,h8⟩:=h
 have hlo:∀ k,v.ownBlock=some k→w.heap.size≤k∧∃ cur,w1.heap[k]?=some (.cells cur 23 (0,0)):=fun k hk=>by
  rcases hv.2 with ⟨rfl,_⟩ | ⟨g,cap,cur,rfl,a,b,_⟩
  ·simp [Value.ownBlock] at hk
  ·simp only [Value.ownBlock,Option.some.injEq] at hk
   subst hk
   exact ⟨a,cur,b⟩
 have keep:∀ (k:Nat) cs t fr,w1.heap[k]?=some (.cells cs t fr)→t≠23→w2.heap[k]?=w1.heap[k]?:=fun k cs t fr hc ht=>hg.block k (Array.getElem?_eq_some_iff.1 hc).1 fun e2=>by
  obtain ⟨_,cur,hc2⟩:=hlo k e2.symm
  rw [hc] at hc2
  cases hc2
  exact ht rfl
 have old:∀ k,k < w.heap.size→k < w1.heap.size→w2.heap[k]?=w1.heap[k]?:=fun k hk hk1=>hg.block k hk1 fun e2=>by have:=(hlo k e2.symm).1;omega
 have hgk:Gk s.R w w2:=⟨hg.os.trans h8.os,hg.tape.trans h8.tape,hg.output.trans h8.output,Nat.le_trans h8.size hg.size,fun k hk=>by
   have hR:=h7.rd.lt
   have hlow:=h8.low k hk
   by_cases hkw:k < w.heap.size
   ·exact (old k hkw (Nat.lt_of_lt_of_le hkw h8.size)).trans hlow
   ·have e0:w.heap[k]?=none:=Array.getElem?_eq_none (by omega)
    rw [e0] at hlow
    exact absurd (Array.getElem?_eq_none_iff.1 hlow) (by omega),
  fun k cs t fr hc ht=>(old k (Array.getElem?_eq_some_iff.1 hc).1 (Nat.lt_of_lt_of_le (Array.getElem?_eq_some_iff.1 hc).1 h8.size)).trans (h8.block k cs t fr hc ht),
  fun k cs fr hc=>by
   obtain ⟨cs',h9,e9⟩:=h8.fld k cs fr hc
   exact ⟨cs',(old k (Array.getElem?_eq_some_iff.1 hc).1 (Nat.lt_of_lt_of_le (Array.getElem?_eq_some_iff.1 hc).1 h8.size)).trans h9,e9⟩⟩
 refine ⟨⟨p',c',sz',h1,h2,h3,h4,h5,h6,?_,hgk⟩,fun u l hn=>hn.keep fun g cur hc=>keep g _ _ _ hc (by decide)⟩
 obtain ⟨⟨vn,vf,e1,e2,e3⟩,e4,e5,e6,e7⟩:=h7
 have own:∀ {e size n:Nat} {v:Value} {xs:List Value},w1.ownsRow s.R e size v n xs→e≠23→w2.ownsRow s.R e size v n xs:=fun {e size n v xs} h ht=>by
  obtain ⟨a1,a2 | ⟨g,cap,cur,b1,b2,b3,b4⟩⟩:=h
  ·exact ⟨a1,.inl a2⟩
  ·exact ⟨a1,.inr ⟨g,cap,cur,b1,b2,(keep g _ _ _ b3 ht).trans b3,b4⟩⟩
 refine ⟨⟨vn,vf,(keep s.G _ _ _ e1 (by decide)).trans e1,own e2 (by decide),own e3 (by decide)⟩,?_,e5,e6,fun f hf=>?_⟩
 ·obtain ⟨ad,n,cap,r1,r2,r3⟩:=e4
  refine ⟨ad,n,cap,(keep s.R _ _ _ r1 (by decide)).trans r1,r2,?_⟩
  rcases r3 with r3 | ⟨a,q2,r4,r5⟩
  ·exact .inl r3
  ·refine .inr ⟨a,q2,r4,fun i hi=>?_⟩
   obtain ⟨x,hx⟩:=r5 i hi
   refine ⟨x,?_⟩
   have hlow:=(hgk.low a.block r4).trans (h8.low a.block r4).symm
   rw [← hx]
   exact World.cell?_of_block (w:=w1) (a:=a.add i) (h:=by rw [add_block];exact hlow)
 ·obtain ⟨f1,f2,f3,f4⟩:=e7 f hf
  refine ⟨f1,f2,f3,f4.imp_right ?_⟩
  rintro ⟨g,cur,q,qa,qb⟩
  exact ⟨g,cur,q,(keep g _ _ _ qa (by decide)).trans qa,qb⟩
theorem Parts.more {s:Gs} {C:Nat} {w w1 w2:World} {v v2 u:Value} {n N K:Nat} {xs:List Value} {ls:List (List Nd)} (hn:xs.length=n) (hl:xs.length=ls.length) (hh:∀ (j:Nat) u l,xs[j]?=some u→ls[j]?=some l→NdIn w1 u l) (hok:NdOk N ls.flatten) (hu:Has K w1 u) (h:At s C w w1) (hv:w1.ownsRow w.heap.size 23 1 v n xs) (hg:w1.grownBy w2 v.ownBlock) (ho:w2.ownsRow w.heap.size 23 1 v2 (n+1) (xs ++ [u])) :
  At s C w w2∧Parts w w2 v2 (n+1) (N+K):=by
 obtain ⟨ha,hk⟩:=h.parted hv hg
 obtain ⟨lu,h1,h2⟩:=hu
 refine ⟨ha,xs ++ [u],ls ++ [lu],by simp [hn],ho,by simp [hl],fun j u' l' hu' hl'=>?_,by rw [List.flatten_append];simpa using hok.app h2⟩
 by_cases hj:j < xs.length
 ·rw [List.getElem?_append_left hj] at hu'
  rw [List.getElem?_append_left (by omega)] at hl'
  exact hk _ _ (hh j u' l' hu' hl')
 ·rw [List.getElem?_append_right (by omega)] at hu'
  rw [List.getElem?_append_right (by omega)] at hl'
  have hj0:j - xs.length=0:=by
   have:=(List.getElem?_eq_some_iff.1 hu').1
   simp at this
   omega
  rw [hj0] at hu'
  rw [show j - ls.length=0 by omega] at hl'
  cases hu';cases hl'
  exact hk _ _ h1
theorem overP_at {s:Gs} {C n N g c:Nat} {w w':World} (h:At s C w w') (x:Nd) (hp:Parts w w' (.slice (some ⟨g,0,none⟩) n c) n N) (hn:n≤1000) (hx:x.text.size≤1000) (hK:N≤100000) :
  Calls Tryz.prog 59 #[.agg #[.int .i64 x.kind,.int .i64 x.op,.int .i64 x.n,.string x.text,.int .i64 x.kids],.slice (some ⟨g,0,none⟩) n c] w' (NdEnd s (N+1) C w w'):=by
 obtain ⟨xs,ls,h1,h2,h3,h4,h5⟩:=hp
 have hparts:PartsIn w' (some ⟨g,0,none⟩) xs ls:=by
  refine ⟨h3,?_,h4⟩
  rcases h2.2 with ⟨e,_⟩ | ⟨g',cap,cur,e,_,b3,_,_,_,b4⟩
  ·cases e
  ·cases e
   refine .inr ⟨g,rfl,cur,b3,fun j u hu=>?_⟩
   rw [Nat.mul_one] at b4
   rw [← b4] at hu
   have hj:=(List.getElem?_eq_some_iff.1 hu).1
   rw [List.length_take] at hj
   rw [List.getElem?_take_of_lt (by omega)] at hu
   simpa using hu
 refine (l2Over_any x (some ⟨g,0,none⟩) n c xs ls w' h1 (by omega) hparts (by have:=h5.1;omega)).mono ?_
 rintro e w2 ⟨v,rfl,h6,h7⟩
 exact ⟨v,_,rfl,h6,h5.over hx,h.next h7,h.gk_next h7⟩
end Go.Proofs.YthnohneaanphbaaGreatDoor
